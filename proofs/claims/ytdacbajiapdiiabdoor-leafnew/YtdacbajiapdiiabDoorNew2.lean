import Derived.Test.YtdacbajiapdiiabDoorPrPut
import Derived.Test.YtdacbajiapdiiabDoorLOwn
import Derived.ArgAppend
import Derived.Deep.DeepAppendRoom
import Derived.Test.YtdacbajiapdiiabDoorBase
namespace Go.Proofs.YtdacbajiapdiiabDoor
open Go.RowKit

/-- A list reads as it did where its block is as it was. -/
theorem PrR.same {w w' : World} {v : Value} {l : List Pr} (h : PrR w v l) (hv : ∀ k, v.ownBlock = some k → w'.heap[k]? = w.heap[k]?) : PrR w' v l := by
  obtain ⟨a, cap, rfl, hle, hn, hc⟩ := h
  refine ⟨a, cap, rfl, hle, hn, fun j hj => ?_⟩
  obtain ⟨g, o, rfl, h1, h2⟩ := hc j hj
  have hb := hv g rfl
  exact ⟨g, o, rfl, (World.cell?_of_block (a := ⟨g, o + j * 2, none⟩) hb).trans h1, (World.cell?_of_block (a := ⟨g, o + j * 2 + 1, none⟩) hb).trans h2⟩

/-- The lists of the law, each in a block of its own: vs the slices, cs what they hold; the first has marks behind it. -/
structure LS (base g n uc : Nat) (vs : List Value) (cs : List (List Pr)) (W : World) : Prop where
  vl : vs.length = 11
  cl : cs.length = 11
  v0 : vs[0]? = some (.slice (some ⟨g, 0, none⟩) n uc)
  c0 : ∀ c : List Pr, cs[0]? = some c → c.length = n ∧ PrO W base (.slice (some ⟨g, 0, none⟩) (n + 64) uc) (c ++ marks 64)
  own : ∀ (i : Nat) (v : Value) (c : List Pr), 1 ≤ i → vs[i]? = some v → cs[i]? = some c → PrO W base v c
  apart : ∀ (i j : Nat) (u v : Value), i ≠ j → vs[i]? = some u → vs[j]? = some v → ∀ k, u.ownBlock = some k → v.ownBlock ≠ some k

variable {base g n uc : Nat} {vs : List Value} {cs : List (List Pr)} {W : World}
theorem LS.below {W' : World} (h : LS base g n uc vs cs W) (hb : Below W.heap.size W W') : LS base g n uc vs cs W' :=
  ⟨h.vl, h.cl, h.v0, fun c hc => ⟨(h.c0 c hc).1, (h.c0 c hc).2.below hb⟩, fun i v c hi hv hc => (h.own i v c hi hv hc).below hb, h.apart⟩
theorem LS.read (h : LS base g n uc vs cs W) {i : Nat} {v : Value} {c : List Pr} (hv : vs[i]? = some v) (hc : cs[i]? = some c) : PrR W v c := by
  cases i with
  | zero =>
    have e := h.v0
    rw [hv] at e
    cases e
    obtain ⟨hl, ho⟩ := h.c0 c hc
    have := ho.at.take (m := n) (by omega)
    rw [← hl, List.take_left, hl] at this
    exact this
  | succ i => exact (h.own _ v c (by omega) hv hc).at
theorem LS.lt (h : LS base g n uc vs cs W) {i k : Nat} {v : Value} (hv : vs[i]? = some v) (hk : v.ownBlock = some k) : base ≤ k ∧ k < W.heap.size := by
  have hi : i < cs.length := by rw [h.cl, ← h.vl]; exact (List.getElem?_eq_some_iff.1 hv).1
  have hc := List.getElem?_eq_getElem hi
  cases i with
  | zero =>
    have e := h.v0
    rw [hv] at e
    cases e
    cases hk
    exact (h.c0 _ hc).2.blk g rfl
  | succ i => exact (h.own _ v _ (by omega) hv hc).blk k hk
/-- The place of a pair, ahead of a store. -/
theorem LS.spot (h : LS base g n uc vs cs W) {i k : Nat} {v : Value} {c : List Pr} (hv : vs[i]? = some v) (hc : cs[i]? = some c) (hk : k < c.length) :
    ∃ b cap, v = .slice (some ⟨b, 0, none⟩) c.length cap ∧ base ≤ b ∧ b < W.heap.size ∧ (∃ u, W.cell? ⟨b, k * 2, none⟩ = some u) ∧ (∃ u, W.cell? ⟨b, k * 2 + 1, none⟩ = some u) ∧ W.frozen? ⟨b, k * 2, none⟩ = false ∧ W.frozen? ⟨b, k * 2 + 1, none⟩ = false := by
  cases i with
  | zero =>
    have e := h.v0
    rw [hv] at e
    cases e
    obtain ⟨hl, ho⟩ := h.c0 c hc
    have hb := ho.blk g rfl
    exact ⟨g, uc, by rw [hl], hb.1, hb.2, ho.spot k (by rw [List.length_append]; omega)⟩
  | succ i =>
    have ho := h.own _ v c (by omega) hv hc
    obtain ⟨b, cap, rfl, h1, h2, _⟩ := ho.some (by omega)
    exact ⟨b, cap, rfl, h1, h2, ho.spot k hk⟩
/-- A pair is stored into one of the lists. -/
theorem LS.fill (h : LS base g n uc vs cs W) {i k b m cap : Nat} {c : List Pr} (hv : vs[i]? = some (.slice (some ⟨b, 0, none⟩) m cap)) (hc : cs[i]? = some c) (hk : k < c.length) (p : Pr) :
    LS base g n uc vs (cs.set i (c.set k p)) ((W.setCell ⟨b, k * 2, none⟩ (.string p.1)).setCell ⟨b, k * 2 + 1, none⟩ (.string p.2)) := by
  have hi : i < cs.length := (List.getElem?_eq_some_iff.1 hc).1
  have hne : ∀ j u, j ≠ i → vs[j]? = some u → u.ownBlock ≠ some b := fun j u hj hu => h.apart i j _ u (Ne.symm hj) hv hu b rfl
  refine ⟨h.vl, by rw [List.length_set]; exact h.cl, h.v0, fun c' hc' => ?_, fun j v c' hj hv' hc' => ?_, h.apart⟩
  · by_cases h0 : i = 0
    · subst h0
      rw [List.getElem?_set_self hi] at hc'
      cases hc'
      obtain ⟨hl, ho⟩ := h.c0 c hc
      have e := h.v0
      rw [hv] at e
      simp only [Option.some.injEq, Value.slice.injEq, Addr.mk.injEq, and_true] at e
      obtain ⟨rfl, rfl, rfl⟩ := e
      refine ⟨by rw [List.length_set]; exact hl, ?_⟩
      have := ho.wrote k p
      rw [List.set_append_left _ _ hk] at this
      exact this
    · rw [List.getElem?_set_ne h0] at hc'
      obtain ⟨hl, ho⟩ := h.c0 c' hc'
      have hg : (Value.slice (some ⟨g, 0, none⟩) (n + 64) uc).ownBlock ≠ some b := fun e => hne 0 _ (fun e => h0 e.symm) h.v0 e
      exact ⟨hl, (ho.put hg _).put hg _⟩
  · by_cases he : i = j
    · subst he
      rw [List.getElem?_set_self hi] at hc'
      cases hc'
      rw [hv] at hv'
      cases hv'
      exact (h.own i _ c hj hv hc).wrote k p
    · rw [List.getElem?_set_ne he] at hc'
      have hg := hne j v (fun e => he e.symm) hv'
      exact ((h.own j v c' hj hv' hc').put hg _).put hg _

/-- The lists up to i, and of list i the first k pairs, are marks of their own. -/
def Done (cs : List (List Pr)) (i k : Nat) : Prop :=
  (∀ (j : Nat) (c : List Pr), j < i → cs[j]? = some c → ∀ p ∈ c, p = ownN j) ∧ (∀ c : List Pr, cs[i]? = some c → ∀ j (h : j < c.length), j < k → c[j] = ownN i)
theorem done_zero (cs : List (List Pr)) : Done cs 0 0 := ⟨fun _ _ h => absurd h (Nat.not_lt_zero _), fun _ _ _ _ h => absurd h (Nat.not_lt_zero _)⟩
theorem Done.step {cs : List (List Pr)} {i k : Nat} {c : List Pr} (h : Done cs i k) (hc : cs[i]? = some c) : Done (cs.set i (c.set k (ownN i))) i (k + 1) := by
  have hi : i < cs.length := (List.getElem?_eq_some_iff.1 hc).1
  refine ⟨fun j c' hj hc' => ?_, fun c' hc' j hj hjk => ?_⟩
  · rw [List.getElem?_set_ne (by omega)] at hc'
    exact h.1 j c' hj hc'
  · rw [List.getElem?_set_self hi] at hc'
    cases hc'
    rw [List.getElem_set]
    split
    · rfl
    · exact h.2 c hc j (by rw [List.length_set] at hj; exact hj) (by omega)
theorem Done.next {cs : List (List Pr)} {i k : Nat} {c : List Pr} (h : Done cs i k) (hc : cs[i]? = some c) (hk : c.length ≤ k) : Done cs (i + 1) 0 := by
  refine ⟨fun j c' hj hc' p hp => ?_, fun _ _ _ _ h => absurd h (Nat.not_lt_zero _)⟩
  by_cases he : j = i
  · subst he
    rw [hc] at hc'
    cases hc'
    obtain ⟨q, hq, rfl⟩ := List.getElem_of_mem hp
    exact h.2 c hc q hq (by omega)
  · exact h.1 j c' (by omega) hc' p hp
theorem lens_set {cs : List (List Pr)} {i k : Nat} {c : List Pr} {p : Pr} {M : Nat} (h : ∀ c ∈ cs, c.length ≤ M) (hc : cs[i]? = some c) : ∀ c' ∈ cs.set i (c.set k p), c'.length ≤ M := by
  intro c' hc'
  rcases List.mem_or_eq_of_mem_set hc' with h' | rfl
  · exact h c' h'
  · rw [List.length_set]; exact h c (List.mem_of_getElem? hc)

end Go.Proofs.YtdacbajiapdiiabDoor

namespace Go.Proofs.YtdacbajiapdiiabDoor
open Go.RowKit

/-- A list's block lies there. -/
def Seg (v : Value) (lo hi : Nat) : Prop := ∀ k, v.ownBlock = some k → lo ≤ k ∧ k < hi
theorem PrO.seg {w : World} {base : Nat} {v : Value} {l : List Pr} (h : PrO w base v l) : Seg v base w.heap.size := h.blk
def Apart (u v : Value) : Prop := ∀ k, u.ownBlock = some k → v.ownBlock ≠ some k
theorem Apart.symm {u v : Value} (h : Apart u v) : Apart v u := fun k h1 h2 => h k h2 h1
theorem Seg.apart {u v : Value} {a b c d : Nat} (h1 : Seg u a b) (h2 : Seg v c d) (h : b ≤ c ∨ d ≤ a) : Apart u v := fun k h3 h4 => by
  have := h1 k h3
  have := h2 k h4
  omega
theorem apart_all {vs : List Value} (h : vs.Pairwise Apart) : ∀ (i j : Nat) (u v : Value), i ≠ j → vs[i]? = some u → vs[j]? = some v → ∀ k, u.ownBlock = some k → v.ownBlock ≠ some k := by
  intro i j u v hij hu hv
  obtain ⟨hi, rfl⟩ := List.getElem?_eq_some_iff.1 hu
  obtain ⟨hj, rfl⟩ := List.getElem?_eq_some_iff.1 hv
  rw [List.pairwise_iff_getElem] at h
  rcases Nat.lt_or_gt_of_ne hij with hlt | hlt
  · exact h i j hi hj hlt
  · exact (h j i hj hi hlt).symm

/-- The lists stand: m, then in the order of their making set2, drop2, a2 and b2, set, drop, a and b, c, d. -/
theorem ls_new {base g n uc : Nat} {l c1 c2 c3 c4 c5 c6 c7 c8 c9 c10 : List Pr} {v1 v2 v3 v4 v5 v6 v7 v8 v9 v10 : Value} {W : World} {b0 b1 b2 b3 b4 b5 b6 b7 b8 : Nat}
    (hl : l.length = n) (hm : PrO W base (.slice (some ⟨g, 0, none⟩) (n + 64) uc) (l ++ marks 64)) (h0 : base ≤ g ∧ g < b0)
    (h01 : b0 ≤ b1) (h12 : b1 ≤ b2) (h23 : b2 ≤ b3) (h34 : b3 ≤ b4) (h45 : b4 ≤ b5) (h56 : b5 ≤ b6) (h67 : b6 ≤ b7) (_h78 : b7 ≤ b8)
    (o1 : PrO W b3 v1 c1) (s1 : Seg v1 b3 b4) (o2 : PrO W b4 v2 c2) (s2 : Seg v2 b4 b5) (o3 : PrO W b5 v3 c3) (s3 : Seg v3 b5 b6) (o4 : PrO W b5 v4 c4) (s4 : Seg v4 b5 b6) (a34 : Apart v3 v4)
    (o5 : PrO W b6 v5 c5) (s5 : Seg v5 b6 b7) (o6 : PrO W b7 v6 c6) (s6 : Seg v6 b7 b8)
    (o7 : PrO W b0 v7 c7) (s7 : Seg v7 b0 b1) (o8 : PrO W b1 v8 c8) (s8 : Seg v8 b1 b2) (o9 : PrO W b2 v9 c9) (s9 : Seg v9 b2 b3) (o10 : PrO W b2 v10 c10) (s10 : Seg v10 b2 b3) (a910 : Apart v9 v10) :
    LS base g n uc [.slice (some ⟨g, 0, none⟩) n uc, v1, v2, v3, v4, v5, v6, v7, v8, v9, v10] [l, c1, c2, c3, c4, c5, c6, c7, c8, c9, c10] W := by
  have hb : base ≤ b0 := by omega
  have s0 : Seg (.slice (some ⟨g, 0, none⟩) n uc) base b0 := fun k hk => by cases hk; exact h0
  refine ⟨rfl, rfl, rfl, fun c hc => ?_, fun i v c hi hv hc => ?_, apart_all ?_⟩
  · cases hc; exact ⟨hl, hm⟩
  · have hlt : i < 11 := (List.getElem?_eq_some_iff.1 hv).1
    match i, hi, hlt with
    | 1, _, _ => cases hv; cases hc; exact o1.mono (by omega)
    | 2, _, _ => cases hv; cases hc; exact o2.mono (by omega)
    | 3, _, _ => cases hv; cases hc; exact o3.mono (by omega)
    | 4, _, _ => cases hv; cases hc; exact o4.mono (by omega)
    | 5, _, _ => cases hv; cases hc; exact o5.mono (by omega)
    | 6, _, _ => cases hv; cases hc; exact o6.mono (by omega)
    | 7, _, _ => cases hv; cases hc; exact o7.mono (by omega)
    | 8, _, _ => cases hv; cases hc; exact o8.mono (by omega)
    | 9, _, _ => cases hv; cases hc; exact o9.mono (by omega)
    | 10, _, _ => cases hv; cases hc; exact o10.mono (by omega)
  · simp only [List.pairwise_cons, List.mem_cons, List.not_mem_nil, or_false, forall_eq_or_imp, forall_eq, List.Pairwise.nil, and_true]
    refine ⟨⟨s0.apart s1 ?_, s0.apart s2 ?_, s0.apart s3 ?_, s0.apart s4 ?_, s0.apart s5 ?_, s0.apart s6 ?_, s0.apart s7 ?_, s0.apart s8 ?_, s0.apart s9 ?_, s0.apart s10 ?_⟩,
      ⟨s1.apart s2 ?_, s1.apart s3 ?_, s1.apart s4 ?_, s1.apart s5 ?_, s1.apart s6 ?_, s1.apart s7 ?_, s1.apart s8 ?_, s1.apart s9 ?_, s1.apart s10 ?_⟩,
      ⟨s2.apart s3 ?_, s2.apart s4 ?_, s2.apart s5 ?_, s2.apart s6 ?_, s2.apart s7 ?_, s2.apart s8 ?_, s2.apart s9 ?_, s2.apart s10 ?_⟩,
      ⟨a34, s3.apart s5 ?_, s3.apart s6 ?_, s3.apart s7 ?_, s3.apart s8 ?_, s3.apart s9 ?_, s3.apart s10 ?_⟩,
      ⟨s4.apart s5 ?_, s4.apart s6 ?_, s4.apart s7 ?_, s4.apart s8 ?_, s4.apart s9 ?_, s4.apart s10 ?_⟩,
      ⟨s5.apart s6 ?_, s5.apart s7 ?_, s5.apart s8 ?_, s5.apart s9 ?_, s5.apart s10 ?_⟩,
      ⟨s6.apart s7 ?_, s6.apart s8 ?_, s6.apart s9 ?_, s6.apart s10 ?_⟩,
      ⟨s7.apart s8 ?_, s7.apart s9 ?_, s7.apart s10 ?_⟩,
      ⟨s8.apart s9 ?_, s8.apart s10 ?_⟩, a910, fun _ h => h.elim⟩ <;> omega

end Go.Proofs.YtdacbajiapdiiabDoor

namespace Go.Proofs.YtdacbajiapdiiabDoor
open Go.RowKit

/-- A list is grown by one pair: in its own block, or in a new one; what it was reads as it did. -/
theorem grow_pr {w : World} {n c : Nat} {a : Option Addr} {l : List Pr} {base : Nat} (p : Pr) (t : TypeId) (h : PrO w base (.slice a n c) l) (hn : n ≤ 4398046511100) (hbase : base ≤ w.heap.size) :
    ∃ a' c' w', (Builtin.append_ #[24, 24] 24 #[.slice a n c, .slice (some ⟨w.heap.size, 0, none⟩) 1 1]).run Tryd.prog (w.alloc (.cells #[.string p.1, .string p.2] t)) = .ok (.slice a' (n + 1) c') w' ∧ PrO w' base (.slice a' (n + 1) c') (l ++ [p]) ∧
      ((∃ g, a = some ⟨g, 0, none⟩ ∧ a' = a ∧ c' = c ∧ w.heap.size ≤ w'.heap.size ∧ w'.os = w.os ∧ w'.tape = w.tape ∧ w'.output = w.output ∧ ∀ k, k < w.heap.size → k ≠ g → w'.heap[k]? = w.heap[k]?) ∨ (Below w.heap.size w w' ∧ ∃ g, a' = some ⟨g, 0, none⟩ ∧ w.heap.size ≤ g)) := by
  obtain ⟨i0, hi, hz, hsz, hby⟩ := info_parts infoP
  obtain rfl := h.cnt
  have hb := below_new w (.cells #[.string p.1, .string p.2] t)
  have h2 := h.below hb
  have hlit := prR_lit w p t
  have hnews : ∀ j u, (prs [p])[j]? = some u → (w.alloc (.cells #[.string p.1, .string p.2] t)).cell? ((⟨w.heap.size, 0, none⟩ : Addr).add j) = some u := fun j u hj => by
    have hbx := boxed_new w #[.string p.1, .string p.2] t
    have hj' : j < 2 := by have := (List.getElem?_eq_some_iff.1 hj).1; rw [prs_length] at this; simpa using this
    rw [add_plain', Nat.zero_add]
    have e := hbx.2 j hj'
    rw [e]
    have : (prs [p])[j]? = (#[Value.string p.1, .string p.2].toList)[j]? := by simp [prs]
    rw [this, List.getElem?_eq_getElem hj'] at hj
    exact hj
  unfold PrO at h2
  rcases h2.2 with ⟨h', h0⟩ | ⟨g, cap, cur, h', hbg, hg, hnc, hcm, hcs, htk⟩
  · obtain ⟨a', c', w', hr, ho, hgr⟩ := append_prs base _ _ l [p] _ (h.below hb) hlit (by simp; omega) (by simp; omega)
    simp only [Value.slice.injEq] at h'
    obtain ⟨rfl, hl0, rfl⟩ := h'
    have hbw : Below w.heap.size w w' := hb.grown hgr (by simp) (fun j hj => by cases hj)
    refine ⟨a', c', w', hr, ho, .inr ⟨hbw, ?_⟩⟩
    have hl : l = [] := List.length_eq_zero_iff.1 hl0
    subst hl
    obtain ⟨v', w2, hr2, ho2, _, _⟩ := run_append_own (P := Tryd.prog) (w.alloc (.cells #[.string p.1, .string p.2] t)) w.heap.size 24 24 45 i0 _ 2 32 Tryd.underlying24 hi hz hsz hby rfl (by decide) (.slice none 0 0) 0 [] (World.ownsRow_nil _ _ _ _) ⟨w.heap.size, 0, none⟩ 1 1 (prs [p]) rfl hnews (prs_one [p]) (by decide) (by decide) (by simp)
    have e := hr.symm.trans hr2
    simp only [Result.ok.injEq] at e
    obtain ⟨rfl, rfl⟩ := e
    obtain ⟨g', c'', he, hb', _⟩ := World.ownsRow.form ho2 (by decide)
    simp only [Value.slice.injEq] at he
    exact ⟨g', he.1, hb'⟩
  · simp only [Value.slice.injEq] at h'
    obtain ⟨rfl, -, rfl⟩ := h'
    by_cases hroom : l.length + 1 ≤ c
    · obtain ⟨w', hr, ho, hgr⟩ := run_append_own_spare (P := Tryd.prog) (w.alloc (.cells #[.string p.1, .string p.2] t)) base 24 24 45 i0 2 Tryd.underlying24 hi hsz g l.length c (prs l) h2 ⟨w.heap.size, 0, none⟩ 1 1 (prs [p]) rfl hnews (prs_one [p]) hroom
      refine ⟨_, c, w', hr, ?_, .inl ⟨g, rfl, rfl, rfl, Nat.le_trans hb.size hgr.size, hgr.os.trans hb.os, hgr.tape.trans hb.tape, hgr.output.trans hb.output, fun k hk hn => (hgr.block k (Nat.lt_of_lt_of_le hk hb.size) (fun e => hn (by simpa using e))).trans (hb.block k hk)⟩⟩
      unfold PrO
      rw [prs_append, List.length_append]
      exact ho
    · obtain ⟨v', w', hr, ho, hgr⟩ := run_append_arg_grows (P := Tryd.prog) (w.alloc (.cells #[.string p.1, .string p.2] t)) 24 24 45 i0 _ 2 32 Tryd.underlying24 hi hz hsz hby rfl (by decide) ⟨g, 0, none⟩ l.length c (prs l) (prs_length l) (fun j u hj => by
        have hj' := (List.getElem?_eq_some_iff.1 hj).1
        rw [prs_length] at hj'
        rw [add_plain', Nat.zero_add, World.ownsRow.cellAt h2 j hj']; exact hj) ⟨w.heap.size, 0, none⟩ 1 1 (prs [p]) rfl hnews (by omega) (by unfold maxLen; omega) (by omega)
      obtain ⟨g', c', rfl, hb', hl'⟩ := World.ownsRow.form ho (by omega)
      have hbw : Below w.heap.size w w' := hb.grown hgr (by simp) (fun j hj => by cases hj)
      refine ⟨_, c', w', hr, ?_, .inr ⟨hbw, g', rfl, by simp at hb'; omega⟩⟩
      have ho' : PrO w' (w.alloc (.cells #[.string p.1, .string p.2] t)).heap.size (.slice (some ⟨g', 0, none⟩) (l.length + 1) c') (l ++ [p]) := by
        unfold PrO
        rw [prs_append, List.length_append]
        exact ho
      exact ho'.mono (by simp; omega)

end Go.Proofs.YtdacbajiapdiiabDoor

namespace Go.Proofs.YtdacbajiapdiiabDoor
open Go.RowKit

theorem pro_same {w w' : World} {base : Nat} {v : Value} {l : List Pr} (h : PrO w base v l) (hv : ∀ k, v.ownBlock = some k → w'.heap[k]? = w.heap[k]?) : PrO w' base v l := by
  refine ⟨h.1, ?_⟩
  rcases h.2 with h' | ⟨g, cap, cur, h', h1, h2, hr⟩
  · exact .inl h'
  · exact .inr ⟨g, cap, cur, h', h1, (hv g (by rw [h']; rfl)).trans h2, hr⟩
theorem prs_take (l : List Pr) : ∀ k, prs (l.take k) = (prs l).take (k * 2) := by
  induction l with
  | nil => intro k; simp [prs]
  | cons p l ih =>
    intro k
    cases k with
    | zero => simp [prs]
    | succ k => rw [List.take_succ_cons, prs_cons, prs_cons, show (k + 1) * 2 = k * 2 + 1 + 1 by omega, List.take_succ_cons, List.take_succ_cons, ih]
theorem pro_prefix {w : World} {base g m c k : Nat} {L : List Pr} (h : PrO w base (.slice (some ⟨g, 0, none⟩) m c) L) (hk : k ≤ m) : PrO w base (.slice (some ⟨g, 0, none⟩) k c) (L.take k) := by
  have hm := h.cnt
  have hl : (L.take k).length = k := by rw [List.length_take]; omega
  rcases h.2 with ⟨h', _⟩ | ⟨g', cap, cur, h', hb, hg, hnc, hcm, hcs, htk⟩
  · cases h'
  · have e := Value.slice.inj h'
    have e1 : g' = g := by have := e.1; simp at this; exact this.symm
    have e2 : cap = c := e.2.2.symm
    subst e1 e2
    unfold PrO
    rw [hl]
    refine ⟨by rw [prs_length, hl], .inr ⟨g', cap, cur, rfl, hb, hg, by omega, hcm, hcs, ?_⟩⟩
    rw [prs_take, ← htk, List.take_take, Nat.min_eq_left (by omega)]

variable {base g n uc : Nat} {vs : List Value} {cs : List (List Pr)} {W : World}
theorem LS.same {W' : World} (h : LS base g n uc vs cs W) (hb : ∀ (i : Nat) (v : Value) (k : Nat), vs[i]? = some v → v.ownBlock = some k → W'.heap[k]? = W.heap[k]?) : LS base g n uc vs cs W' :=
  ⟨h.vl, h.cl, h.v0, fun c hc => ⟨(h.c0 c hc).1, pro_same (h.c0 c hc).2 (fun k hk => by cases hk; exact hb 0 _ g h.v0 rfl)⟩, fun i v c hi hv hc => pro_same (h.own i v c hi hv hc) (fun k hk => hb i v k hv hk), h.apart⟩
theorem grownBy_below {V w w' : World} {r : Option Nat} (h : V.grownBy w r) (hb : Below w.heap.size w w') : V.grownBy w' r :=
  ⟨hb.os.trans h.os, hb.tape.trans h.tape, hb.output.trans h.output, Nat.le_trans h.size hb.size, fun k hk hne => (hb.block k (Nat.lt_of_lt_of_le hk h.size)).trans (h.block k hk hne)⟩

/-- A list that grows out of one of the eleven. -/
structure GrowP (base g n uc : Nat) (vs : List Value) (cs : List (List Pr)) (V w : World) (i m q : Nat) (vi : Value) (a : Option Addr) (c : Nat) (ci : List Pr) : Prop where
  own : PrO w base (.slice a (m + q) c) (ci ++ List.replicate q (ownN i))
  whr : vi = .slice a m c ∨ ∃ b, a = some ⟨b, 0, none⟩ ∧ V.heap.size ≤ b
  ls0 : LS base g n uc vs cs V
  ls : LS base g n uc vs cs w
  sep : V.grownBy w vi.ownBlock
theorem GrowP.init {i m c : Nat} {a : Option Addr} {ci : List Pr} {V : World} (h : LS base g n uc vs cs V) (hi : 1 ≤ i) (hv : vs[i]? = some (.slice a m c)) (hc : cs[i]? = some ci) : GrowP base g n uc vs cs V V i m 0 (.slice a m c) a c ci :=
  ⟨by simpa using h.own i _ ci hi hv hc, .inl rfl, h, h, ⟨rfl, rfl, rfl, Nat.le_refl _, fun _ _ _ => rfl⟩⟩
theorem GrowP.below {i m q c : Nat} {vi : Value} {a : Option Addr} {ci : List Pr} {V w w' : World} (h : GrowP base g n uc vs cs V w i m q vi a c ci) (hb : Below w.heap.size w w') : GrowP base g n uc vs cs V w' i m q vi a c ci :=
  ⟨h.own.below hb, h.whr, h.ls0, h.ls.below hb, grownBy_below h.sep hb⟩
theorem GrowP.step {i m q c : Nat} {vi : Value} {a : Option Addr} {ci : List Pr} {V w : World} (t : TypeId) (h : GrowP base g n uc vs cs V w i m q vi a c ci) (hi : 1 ≤ i) (hv : vs[i]? = some vi) (hc : cs[i]? = some ci) (hm : ci.length = m) (hn : m + q ≤ 4398046511100) (hbase : base ≤ w.heap.size) :
    ∃ a' c' w', (Builtin.append_ #[24, 24] 24 #[.slice a (m + q) c, .slice (some ⟨w.heap.size, 0, none⟩) 1 1]).run Tryd.prog (w.alloc (.cells #[.string (ownN i).1, .string (ownN i).2] t)) = .ok (.slice a' (m + q + 1) c') w' ∧ GrowP base g n uc vs cs V w' i m (q + 1) vi a' c' ci := by
  obtain ⟨a', c', w', hr, ho, hcase⟩ := grow_pr (ownN i) t h.own hn hbase
  have ho' : PrO w' base (.slice a' (m + (q + 1)) c') (ci ++ List.replicate (q + 1) (ownN i)) := by
    rw [List.replicate_succ', ← List.append_assoc, ← Nat.add_assoc]; exact ho
  refine ⟨a', c', w', hr, ?_⟩
  rcases hcase with ⟨b, rfl, rfl, rfl, hsz, hos, htp, hout, hblk⟩ | ⟨hb, b, rfl, hg⟩
  · rcases h.whr with he | ⟨b', he, hb'⟩
    · have hbk : vi.ownBlock = some b := by rw [he]; rfl
      have hoth : ∀ (j : Nat) (v : Value) (k : Nat), j ≠ i → vs[j]? = some v → v.ownBlock = some k → w'.heap[k]? = w.heap[k]? := fun j v k hj hvj hk => hblk k (h.ls.lt hvj hk).2 (fun e => h.ls.apart j i v vi hj hvj hv k hk (e ▸ hbk))
      refine ⟨ho', .inl he, h.ls0, ⟨h.ls.vl, h.ls.cl, h.ls.v0, fun c0 hc0 => ⟨(h.ls.c0 c0 hc0).1, pro_same (h.ls.c0 c0 hc0).2 (fun k hk => by cases hk; exact hoth 0 _ g (by omega) h.ls.v0 rfl)⟩, fun j v cj hj hvj hcj => ?_, h.ls.apart⟩, ⟨hos.trans h.sep.os, htp.trans h.sep.tape, hout.trans h.sep.output, Nat.le_trans h.sep.size hsz, fun k hk hne => (hblk k (Nat.lt_of_lt_of_le hk h.sep.size) (fun e => hne (by rw [hbk, e]))).trans (h.sep.block k hk hne)⟩⟩
      by_cases hji : j = i
      · subst hji
        rw [hv] at hvj
        cases hvj
        rw [hc] at hcj
        cases hcj
        have := pro_prefix ho' (k := m) (by omega)
        rw [List.take_append_of_le_length (by omega), List.take_of_length_le (by omega)] at this
        rw [he]; exact this
      · exact pro_same (h.ls.own j v cj hj hvj hcj) (fun k hk => hoth j v k hji hvj hk)
    · have hbb : b = b' := by simpa using he
      subst hbb
      exact ⟨ho', .inr ⟨b, rfl, hb'⟩, h.ls0, h.ls.same (fun j v k hvj hk => hblk k (h.ls.lt hvj hk).2 (fun e => by have := (h.ls0.lt hvj hk).2; omega)), ⟨hos.trans h.sep.os, htp.trans h.sep.tape, hout.trans h.sep.output, Nat.le_trans h.sep.size hsz, fun k hk hne => (hblk k (Nat.lt_of_lt_of_le hk h.sep.size) (by omega)).trans (h.sep.block k hk hne)⟩⟩
  · exact ⟨ho', .inr ⟨b, rfl, Nat.le_trans h.sep.size hg⟩, h.ls0, h.ls.below hb, grownBy_below h.sep hb⟩

/-- The lists that were grown, k of them. -/
structure LongP (base : Nat) (vs : List Value) (ln : Nat → Nat) (B0 : Nat) (w : World) (lv : Value) (us : List Value) (k : Nat) : Prop where
  cnt : us.length = k
  own : w.ownsRow B0 24 1 lv k us
  lst : ∀ j (_ : j < us.length), ∃ a c, us[j]? = some (.slice a (ln (j + 1) + 64) c) ∧ PrO w base (.slice a (ln (j + 1) + 64) c) (List.replicate (ln (j + 1) + 64) (ownN (j + 1))) ∧ ∀ b, (Value.slice a (ln (j + 1) + 64) c).ownBlock = some b → ∀ (i : Nat) (v : Value), i ≠ j + 1 → vs[i]? = some v → v.ownBlock ≠ some b
theorem LongP.nil (base : Nat) (vs : List Value) (ln : Nat → Nat) (B0 : Nat) (w : World) : LongP base vs ln B0 w (.slice none 0 0) [] 0 :=
  ⟨rfl, World.ownsRow_nil _ _ _ _, fun j h => by simp at h⟩
theorem ownsRow_same {w w' : World} {base e k : Nat} {v : Value} {us : List Value} (h : w.ownsRow base e 1 v k us) (hv : ∀ b, v.ownBlock = some b → w'.heap[b]? = w.heap[b]?) : w'.ownsRow base e 1 v k us := by
  refine ⟨h.1, ?_⟩
  rcases h.2 with h' | ⟨g, cap, cur, h', h1, h2, hr⟩
  · exact .inl h'
  · exact .inr ⟨g, cap, cur, h', h1, (hv g (by rw [h']; rfl)).trans h2, hr⟩
theorem LongP.same {ln : Nat → Nat} {B0 k : Nat} {w w' : World} {lv : Value} {us : List Value} (h : LongP base vs ln B0 w lv us k) (h1 : ∀ b, lv.ownBlock = some b → w'.heap[b]? = w.heap[b]?) (h3 : ∀ (j : Nat) (u : Value) (b : Nat), us[j]? = some u → u.ownBlock = some b → w'.heap[b]? = w.heap[b]?) : LongP base vs ln B0 w' lv us k := by
  refine ⟨h.cnt, ownsRow_same h.own h1, fun j hj => ?_⟩
  obtain ⟨a, c, hu, ho, hb⟩ := h.lst j hj
  exact ⟨a, c, hu, pro_same ho (fun b hk => h3 j _ b hu hk), hb⟩
theorem LongP.below {ln : Nat → Nat} {B0 k : Nat} {w w' : World} {lv : Value} {us : List Value} (h : LongP base vs ln B0 w lv us k) (hb : Below w.heap.size w w') : LongP base vs ln B0 w' lv us k :=
  h.same (fun b hk => hb.block b (World.ownsRow.lt h.own b hk).2) (fun j u b hu hk => by
    have hj : j < us.length := (List.getElem?_eq_some_iff.1 hu).1
    obtain ⟨a, c, hu', ho, _⟩ := h.lst j hj
    rw [hu] at hu'
    cases hu'
    exact hb.block b (ho.blk b hk).2)
/-- One of the eleven has grown meanwhile. -/
theorem LongP.sep {ln : Nat → Nat} {B0 k i : Nat} {V w : World} {lv vi : Value} {us : List Value} (h : LongP base vs ln B0 V lv us k) (hs : V.grownBy w vi.ownBlock) (hv : vs[i]? = some vi) (hik : k < i) (hfar : ∀ b, vi.ownBlock = some b → b < B0) : LongP base vs ln B0 w lv us k :=
  h.same (fun b hk => hs.block b (World.ownsRow.lt h.own b hk).2 (fun e => by have h1 := (World.ownsRow.lt h.own b hk).1; have h2 := hfar b e.symm; omega)) (fun j u b hu hk => by
    have hj : j < us.length := (List.getElem?_eq_some_iff.1 hu).1
    have hjk : j < k := by rw [← h.cnt]; exact hj
    obtain ⟨a, c, hu', ho, hap⟩ := h.lst j hj
    rw [hu] at hu'
    cases hu'
    exact hs.block b (ho.blk b hk).2 (fun e => hap b hk i vi (by omega) hv e.symm))
theorem infoPS : (Tryd.prog.info? 24).map (fun i => (i.zero, i.size, i.bytes)) = some (some (.slice none 0 0), 1, 24) := by kernel_rfl
theorem rowR_lit (w : World) (u : Value) (t : TypeId) : RowR (w.alloc (.cells #[u] t)) (.slice (some ⟨w.heap.size, 0, none⟩) 1 1) [u] :=
  ⟨_, 1, rfl, Nat.le_refl _, fun h => by simp at h, fun j x hj => by
    have hj' : j < 1 := (List.getElem?_eq_some_iff.1 hj).1
    have hj0 : j = 0 := by omega
    subst hj0
    cases hj
    refine ⟨_, _, rfl, ?_⟩
    have hbx := boxed_new w #[u] t
    exact hbx.2 0 (by simp)⟩
/-- One list more. -/
theorem LongP.push {ln : Nat → Nat} {B0 k m c : Nat} {a : Option Addr} {V w : World} {lv vi : Value} {us : List Value} {ci : List Pr} (t : TypeId) (h : LongP base vs ln B0 w lv us k) (hg : GrowP base g n uc vs cs V w (k + 1) m 64 vi a c ci) (hv : vs[k + 1]? = some vi) (hln : ln (k + 1) = m) (hci : ci = List.replicate m (ownN (k + 1))) (hk : k ≤ 100) (hB : B0 ≤ w.heap.size) :
    ∃ a' c' w', (Builtin.append_ #[51, 51] 51 #[lv, .slice (some ⟨w.heap.size, 0, none⟩) 1 1]).run Tryd.prog (w.alloc (.cells #[.slice a (m + 64) c] t)) = .ok (.slice a' (k + 1) c') w' ∧ LongP base vs ln B0 w' (.slice a' (k + 1) c') (us ++ [.slice a (m + 64) c]) (k + 1) ∧ w.grownBy w' lv.ownBlock := by
  have hb := below_new w (.cells #[.slice a (m + 64) c] t)
  have h2 := h.below hb
  obtain ⟨a', c', w', hr, ho, hgr⟩ := append_row 51 24 (.slice none 0 0) 24 infoPS Tryd.underlying51 rfl B0 k lv us _ h2.own _ _ (rowR_lit w (.slice a (m + 64) c) t) (fun u hu => by simp at hu; subst hu; rfl) (by simp; omega) (by decide) (Nat.le_trans hB hb.size)
  have hgw : w.grownBy w' lv.ownBlock := ⟨hgr.os.trans hb.os, hgr.tape.trans hb.tape, hgr.output.trans hb.output, Nat.le_trans hb.size hgr.size, fun j hj hne => (hgr.block j (Nat.lt_of_lt_of_le hj hb.size) hne).trans (hb.block j hj)⟩
  have hty : ∀ {u : Value} {l : List Pr} (b : Nat), PrO w base u l → u.ownBlock = some b → w'.heap[b]? = w.heap[b]? := fun {u l} b hu hk => hgw.block b (hu.blk b hk).2 (fun e => by
    rcases hu.2 with ⟨h', _⟩ | ⟨g1, _, cur, h', _, hg1, _⟩
    · rw [h'] at hk; cases hk
    · rw [h'] at hk
      have e1 : g1 = b := by simpa [Value.ownBlock] using hk
      rcases h.own.2 with ⟨h3, _⟩ | ⟨g2, _, cur2, h3, _, hg2, _⟩
      · rw [h3] at e; cases e
      · rw [h3] at e
        have e2 : b = g2 := by simpa [Value.ownBlock] using e
        subst e1 e2
        rw [hg1] at hg2
        simp at hg2)
  refine ⟨a', c', w', hr, ⟨by simp [h.cnt], ho, fun j hj => ?_⟩, hgw⟩
  by_cases hjk : j < us.length
  · obtain ⟨a1, c1, hu, ho1, hap⟩ := h.lst j hjk
    exact ⟨a1, c1, by rw [List.getElem?_append_left hjk]; exact hu, pro_same ho1 (fun b hk => hty b ho1 hk), hap⟩
  · have hje : j = us.length := by simp at hj; omega
    have hjk2 : j = k := by rw [hje, h.cnt]
    subst hjk2
    have hlist : ci ++ List.replicate 64 (ownN (j + 1)) = List.replicate (m + 64) (ownN (j + 1)) := by rw [hci, List.replicate_append_replicate]
    have hown := hg.own
    rw [hlist] at hown
    refine ⟨a, c, ?_, ?_, fun b hk i v hi hvi hbv => ?_⟩
    · rw [List.getElem?_append_right (by omega), show j - us.length = 0 by omega, hln]; rfl
    · rw [hln]; exact pro_same hown (fun b hk => hty b hown hk)
    · rcases hg.whr with he | ⟨b', he, hb'⟩
      · have : vi.ownBlock = some b := by rw [he]; cases a <;> exact hk
        exact hg.ls0.apart i (j + 1) v vi hi hvi hv b hbv this
      · subst he
        have e : b' = b := by simpa [Value.ownBlock] using hk
        subst e
        have := (hg.ls0.lt hvi hbv).2
        omega

end Go.Proofs.YtdacbajiapdiiabDoor
