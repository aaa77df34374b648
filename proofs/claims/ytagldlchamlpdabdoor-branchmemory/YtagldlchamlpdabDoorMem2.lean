import Derived.Test.YtagldlchamlpdabDoorBAnew
import Derived.Deep.DeepAppendRoom
namespace Go.Proofs.YtagldlchamlpdabDoor
open Go.RowKit

/-- A list is grown by one link: in its own block, or in a new one; what it was reads as it did. -/
theorem grow_lk {w : World} {n c : Nat} {a : Option Addr} {l : List Lk} {base : Nat} (p : Lk) (t : TypeId) (h : LkO w base (.slice a n c) l) (hn : n ≤ 5864062014000) (hbase : base ≤ w.heap.size) :
    ∃ a' c' w', (Builtin.append_ #[28, 28] 28 #[.slice a n c, .slice (some ⟨w.heap.size, 0, none⟩) 1 1]).run Tryd.prog (w.alloc (.cells #[.string p.1, .int .i64 p.2] t)) = .ok (.slice a' (n + 1) c') w' ∧ LkO w' base (.slice a' (n + 1) c') (l ++ [p]) ∧
      ((∃ g, a = some ⟨g, 0, none⟩ ∧ a' = a ∧ c' = c ∧ w.heap.size ≤ w'.heap.size ∧ w'.os = w.os ∧ w'.tape = w.tape ∧ w'.output = w.output ∧ ∀ k, k < w.heap.size → k ≠ g → w'.heap[k]? = w.heap[k]?) ∨ (Below w.heap.size w w' ∧ ∃ g, a' = some ⟨g, 0, none⟩ ∧ w.heap.size ≤ g)) := by
  obtain ⟨i0, hi, hz, hsz, hby⟩ := info_parts infoK
  obtain rfl := h.cnt
  have hb := below_new w (.cells #[.string p.1, .int .i64 p.2] t)
  have h2 := h.below hb
  have hlit := lkR_lit w p t
  have hnews : ∀ j u, (lks [p])[j]? = some u → (w.alloc (.cells #[.string p.1, .int .i64 p.2] t)).cell? ((⟨w.heap.size, 0, none⟩ : Addr).add j) = some u := fun j u hj => by
    have hbx := boxed_new w #[.string p.1, .int .i64 p.2] t
    have hj' : j < 2 := by have := (List.getElem?_eq_some_iff.1 hj).1; rw [lks_length] at this; simpa using this
    rw [add_plain', Nat.zero_add]
    have e := hbx.2 j hj'
    rw [e]
    have : (lks [p])[j]? = (#[Value.string p.1, .int .i64 p.2].toList)[j]? := by simp [lks]
    rw [this, List.getElem?_eq_getElem hj'] at hj
    exact hj
  unfold LkO at h2
  rcases h2.2 with ⟨h', h0⟩ | ⟨g, cap, cur, h', hbg, hg, hnc, hcm, hcs, htk⟩
  · obtain ⟨a', c', w', hr, ho, hgr⟩ := append_lks base _ _ l [p] _ (h.below hb) hlit (by simp; omega) (by simp; omega)
    simp only [Value.slice.injEq] at h'
    obtain ⟨rfl, hl0, rfl⟩ := h'
    have hbw : Below w.heap.size w w' := hb.grown hgr (by simp) (fun j hj => by cases hj)
    refine ⟨a', c', w', hr, ho, .inr ⟨hbw, ?_⟩⟩
    have hl : l = [] := List.length_eq_zero_iff.1 hl0
    subst hl
    obtain ⟨v', w2, hr2, ho2, _, _⟩ := run_append_own (P := Tryd.prog) (w.alloc (.cells #[.string p.1, .int .i64 p.2] t)) w.heap.size 28 28 54 i0 _ 2 24 Tryd.underlying28 hi hz hsz hby rfl (by decide) (.slice none 0 0) 0 [] (World.ownsRow_nil _ _ _ _) ⟨w.heap.size, 0, none⟩ 1 1 (lks [p]) rfl hnews (lks_one [p]) (by decide) (by decide) (by simp)
    have e := hr.symm.trans hr2
    simp only [Result.ok.injEq] at e
    obtain ⟨rfl, rfl⟩ := e
    obtain ⟨g', c'', he, hb', _⟩ := World.ownsRow.form ho2 (by decide)
    simp only [Value.slice.injEq] at he
    exact ⟨g', he.1, hb'⟩
  · simp only [Value.slice.injEq] at h'
    obtain ⟨rfl, -, rfl⟩ := h'
    by_cases hroom : l.length + 1 ≤ c
    · obtain ⟨w', hr, ho, hgr⟩ := run_append_own_spare (P := Tryd.prog) (w.alloc (.cells #[.string p.1, .int .i64 p.2] t)) base 28 28 54 i0 2 Tryd.underlying28 hi hsz g l.length c (lks l) h2 ⟨w.heap.size, 0, none⟩ 1 1 (lks [p]) rfl hnews (lks_one [p]) hroom
      refine ⟨_, c, w', hr, ?_, .inl ⟨g, rfl, rfl, rfl, Nat.le_trans hb.size hgr.size, hgr.os.trans hb.os, hgr.tape.trans hb.tape, hgr.output.trans hb.output, fun k hk hn => (hgr.block k (Nat.lt_of_lt_of_le hk hb.size) (fun e => hn (by simpa using e))).trans (hb.block k hk)⟩⟩
      unfold LkO
      rw [lks_append, List.length_append]
      exact ho
    · obtain ⟨v', w', hr, ho, hgr⟩ := run_append_arg_grows (P := Tryd.prog) (w.alloc (.cells #[.string p.1, .int .i64 p.2] t)) 28 28 54 i0 _ 2 24 Tryd.underlying28 hi hz hsz hby rfl (by decide) ⟨g, 0, none⟩ l.length c (lks l) (lks_length l) (fun j u hj => by
        have hj' := (List.getElem?_eq_some_iff.1 hj).1
        rw [lks_length] at hj'
        rw [add_plain', Nat.zero_add, World.ownsRow.cellAt h2 j hj']; exact hj) ⟨w.heap.size, 0, none⟩ 1 1 (lks [p]) rfl hnews (by omega) (by unfold maxLen; omega) (by omega)
      obtain ⟨g', c', rfl, hb', hl'⟩ := World.ownsRow.form ho (by omega)
      have hbw : Below w.heap.size w w' := hb.grown hgr (by simp) (fun j hj => by cases hj)
      refine ⟨_, c', w', hr, ?_, .inr ⟨hbw, g', rfl, by simp at hb'; omega⟩⟩
      have ho' : LkO w' (w.alloc (.cells #[.string p.1, .int .i64 p.2] t)).heap.size (.slice (some ⟨g', 0, none⟩) (l.length + 1) c') (l ++ [p]) := by
        unfold LkO
        rw [lks_append, List.length_append]
        exact ho
      exact ho'.mono (by simp; omega)


theorem LkO.prefix {w : World} {base g m c k : Nat} {L : List Lk} (h : LkO w base (.slice (some ⟨g, 0, none⟩) m c) L) (hk : k ≤ m) : LkO w base (.slice (some ⟨g, 0, none⟩) k c) (L.take k) := by
  have hm := h.cnt
  have hl : (L.take k).length = k := by rw [List.length_take]; omega
  rcases h.2 with ⟨h', _⟩ | ⟨g', cap, cur, h', hb, hg, hnc, hcm, hcs, htk⟩
  · cases h'
  · have e := Value.slice.inj h'
    have e1 : g' = g := by have := e.1; simp at this; exact this.symm
    have e2 : cap = c := e.2.2.symm
    subst e1 e2
    have := LkO.row (w := w) (l := L.take k) (c := cap) hb hg (by omega) hcm hcs (by rw [hl, lks_take, ← htk, List.take_take, Nat.min_eq_left (by omega)])
    rwa [hl] at this
theorem LkO.same {w w' : World} {base g m c : Nat} {L : List Lk} (h : LkO w base (.slice (some ⟨g, 0, none⟩) m c) L) (hb : w'.heap[g]? = w.heap[g]?) : LkO w' base (.slice (some ⟨g, 0, none⟩) m c) L := by
  refine ⟨h.1, ?_⟩
  rcases h.2 with ⟨h', _⟩ | ⟨g', cap, cur, h', hbg, hg, hr⟩
  · cases h'
  · have e1 : g' = g := by have := (Value.slice.inj h').1; simp at this; exact this.symm
    subst e1
    exact .inr ⟨g', cap, cur, h', hbg, hb.trans hg, hr⟩

/-- A block that the marks don't touch. -/
def Free (V : World) (lo hi j : Nat) : Prop := j < lo ∨ hi ≤ j ∨ ∃ cs t fr, V.heap[j]? = some (.cells cs t fr) ∧ t ≠ 54
/-- What the marks leave. -/
structure Sep (lo hi : Nat) (V w : World) : Prop where
  os : w.os = V.os
  tape : w.tape = V.tape
  output : w.output = V.output
  size : V.heap.size ≤ w.heap.size
  block : ∀ j, j < V.heap.size → Free V lo hi j → w.heap[j]? = V.heap[j]?
theorem Sep.refl (lo hi : Nat) (V : World) : Sep lo hi V V := ⟨rfl, rfl, rfl, Nat.le_refl _, fun _ _ _ => rfl⟩
theorem Sep.below {lo hi : Nat} {V w w' : World} (h : Sep lo hi V w) (hb : Below w.heap.size w w') : Sep lo hi V w' :=
  ⟨hb.os.trans h.os, hb.tape.trans h.tape, hb.output.trans h.output, Nat.le_trans h.size hb.size, fun j hj hf => (hb.block j (Nat.lt_of_lt_of_le hj h.size)).trans (h.block j hj hf)⟩
theorem Sep.toBelow {lo hi B : Nat} {V w : World} (h : Sep lo hi V w) (hB : B ≤ lo) (hV : B ≤ V.heap.size) : Below B V w :=
  ⟨h.os, h.tape, h.output, h.size, fun j hj => h.block j (Nat.lt_of_lt_of_le hj hV) (.inl (Nat.lt_of_lt_of_le hj hB))⟩
theorem Sep.cell {lo hi : Nat} {V w : World} (h : Sep lo hi V w) {p : Addr} {u : Value} (hc : V.cell? p = some u) (hf : Free V lo hi p.block) : w.cell? p = some u := by
  have hlt := World.block_lt_of_cell? V p hc
  rw [← hc]
  unfold World.cell?
  rw [h.block p.block hlt hf]
theorem Sep.row {lo hi b : Nat} {V w : World} {cs : Array Value} {t : TypeId} (h : Sep lo hi V w) (hr : RowAt V b cs t) (ht : t ≠ 54) : RowAt w b cs t :=
  (h.block b hr.lt (.inr (.inr ⟨_, _, _, hr, ht⟩))).trans hr
theorem Sep.lkR {lo hi : Nat} {V w : World} {v : Value} {l : List Lk} (h : Sep lo hi V w) (hr : LkR V v l) (hf : ∀ k, v.ownBlock = some k → Free V lo hi k) : LkR w v l := by
  obtain ⟨a, cap, rfl, hle, hn, hc⟩ := hr
  refine ⟨a, cap, rfl, hle, hn, fun j hj => ?_⟩
  obtain ⟨g, o, ha, h1, h2⟩ := hc j hj
  subst ha
  have hfg := hf g rfl
  exact ⟨g, o, rfl, h.cell (p := ⟨g, o + j * 2, none⟩) h1 hfg, h.cell (p := ⟨g, o + j * 2 + 1, none⟩) h2 hfg⟩
theorem Sep.lkO {lo hi base g m c : Nat} {V w : World} {l : List Lk} (h : Sep lo hi V w) (hr : LkO V base (.slice (some ⟨g, 0, none⟩) m c) l) (hf : Free V lo hi g) : LkO w base (.slice (some ⟨g, 0, none⟩) m c) l :=
  hr.same (h.block g (hr.blk g rfl).2 hf)

/-- The six lists: their blocks, how long they are, their room. -/
structure Six where
  gs : Nat → Nat
  ln : Nat → Nat
  cs : Nat → Nat
def Six.at (F : Six) (j : Nat) : Value := .slice (some ⟨F.gs j, 0, none⟩) (F.ln j) (F.cs j)
/-- They lie so. -/
structure Fam (F : Six) (lo hi : Nat) (V w : World) (L : Nat → List Lk) : Prop where
  own : ∀ j, j < 6 → LkO w lo (F.at j) (L j)
  low : ∀ j, j < 6 → lo ≤ F.gs j ∧ F.gs j < hi
  one : ∀ i j, i < 6 → j < 6 → F.gs i = F.gs j → i = j
  typ : ∀ j, j < 6 → ¬ Free V lo hi (F.gs j)
  big : hi ≤ V.heap.size
theorem Fam.len {F : Six} {lo hi : Nat} {V w : World} {L : Nat → List Lk} (h : Fam F lo hi V w L) (j : Nat) (hj : j < 6) : (L j).length = F.ln j := ((h.own j hj).cnt).symm
theorem Fam.below {F : Six} {lo hi : Nat} {V w w' : World} {L : Nat → List Lk} (h : Fam F lo hi V w L) (hb : Below w.heap.size w w') : Fam F lo hi V w' L :=
  ⟨fun j hj => (h.own j hj).below hb, h.low, h.one, h.typ, h.big⟩

def mrk (j : Nat) : Lk := (⟨#[109, 97, 114, 107]⟩, 100 + (j : Int))
def filled (ls : Nat → List Lk) (i k j : Nat) : List Lk := if j < i then List.replicate (ls j).length (mrk j) else if j = i then List.replicate k (mrk j) ++ (ls j).drop k else ls j
theorem filled_zero (ls : Nat → List Lk) (j : Nat) : filled ls 0 0 j = ls j := by
  unfold filled
  rw [if_neg (by omega)]
  split <;> simp
theorem filled_next (ls : Nat → List Lk) (i j : Nat) : filled ls i (ls i).length j = filled ls (i + 1) 0 j := by
  unfold filled
  rcases Nat.lt_trichotomy j i with h | h | h
  · rw [if_pos h, if_pos (by omega)]
  · subst h; rw [if_neg (by omega), if_pos rfl, if_pos (by omega)]; simp
  · rw [if_neg (by omega), if_neg (by omega), if_neg (by omega)]
    split <;> simp
theorem filled_step (ls : Nat → List Lk) (i k : Nat) (hk : k < (ls i).length) : (filled ls i k i).set k (mrk i) = filled ls i (k + 1) i := by
  unfold filled
  rw [if_neg (by omega), if_pos rfl, if_neg (by omega), if_pos rfl, List.set_append_right _ _ (by simp), List.length_replicate, Nat.sub_self, List.drop_eq_getElem_cons hk, List.set_cons_zero, List.replicate_succ', List.append_assoc]
  rfl
theorem filled_other (ls : Nat → List Lk) (i k k' j : Nat) (h : j ≠ i) : filled ls i k j = filled ls i k' j := by
  unfold filled
  split
  · rfl
  · first | rfl | simp [h]

/-- One mark more. -/
theorem Fam.fill {F : Six} {lo hi : Nat} {V w : World} {ls : Nat → List Lk} {i k : Nat} (h : Fam F lo hi V w (filled ls i k)) (hs : Sep lo hi V w) (hi6 : i < 6) (hk : k < (ls i).length) :
    Fam F lo hi V ((w.setCell ⟨F.gs i, k * 2, none⟩ (.string (mrk i).1)).setCell ⟨F.gs i, k * 2 + 1, none⟩ (.int .i64 (mrk i).2)) (filled ls i (k + 1)) ∧
      Sep lo hi V ((w.setCell ⟨F.gs i, k * 2, none⟩ (.string (mrk i).1)).setCell ⟨F.gs i, k * 2 + 1, none⟩ (.int .i64 (mrk i).2)) := by
  have hoth : ∀ j, j ≠ F.gs i → ((w.setCell ⟨F.gs i, k * 2, none⟩ (.string (mrk i).1)).setCell ⟨F.gs i, k * 2 + 1, none⟩ (.int .i64 (mrk i).2)).heap[j]? = w.heap[j]? := fun j hj => by
    rw [Below.heap_setCell _ _ _ _ hj, Below.heap_setCell _ _ _ _ hj]
  refine ⟨⟨fun j hj => ?_, h.low, h.one, h.typ, h.big⟩, ⟨hs.os, hs.tape, hs.output, by simpa using hs.size, fun j hj hf => ?_⟩⟩
  · by_cases hji : j = i
    · subst hji
      have := (h.own j hj).wrote k (mrk j)
      rw [filled_step ls j k hk] at this
      exact this
    · rw [filled_other ls i (k + 1) k j hji]
      exact (h.own j hj).same (hoth _ (fun e => hji (h.one j i hj hi6 e)))
  · exact (hoth j (fun e => h.typ i hi6 (e ▸ hf))).trans (hs.block j hj hf)

def negLk : Lk := (⟨#[]⟩, -1)
/-- A list that grows out of one of the six. -/
structure Grow (F : Six) (lo hi : Nat) (V w : World) (L : Nat → List Lk) (i q : Nat) (a : Option Addr) (c : Nat) : Prop where
  own : LkO w lo (.slice a (F.ln i + q) c) (L i ++ List.replicate q negLk)
  whr : (a = some ⟨F.gs i, 0, none⟩ ∧ c = F.cs i) ∨ ∃ g, a = some ⟨g, 0, none⟩ ∧ V.heap.size ≤ g
  fam : Fam F lo hi V w L
  sep : Sep lo hi V w
theorem Grow.init {F : Six} {lo hi : Nat} {V w : World} {L : Nat → List Lk} {i : Nat} (h : Fam F lo hi V w L) (hs : Sep lo hi V w) (hi6 : i < 6) : Grow F lo hi V w L i 0 (some ⟨F.gs i, 0, none⟩) (F.cs i) :=
  ⟨by simpa [Six.at] using h.own i hi6, .inl ⟨rfl, rfl⟩, h, hs⟩
theorem Grow.step {F : Six} {lo hi : Nat} {V w : World} {L : Nat → List Lk} {i q c : Nat} {a : Option Addr} (h : Grow F lo hi V w L i q a c) (hi6 : i < 6) (hn : F.ln i + q ≤ 5864062014000) :
    ∃ a' c' w', (Builtin.append_ #[28, 28] 28 #[.slice a (F.ln i + q) c, .slice (some ⟨w.heap.size, 0, none⟩) 1 1]).run Tryd.prog (w.alloc (.cells #[.string ⟨#[]⟩, .int .i64 (-1)] 54)) = .ok (.slice a' (F.ln i + q + 1) c') w' ∧ Grow F lo hi V w' L i (q + 1) a' c' := by
  have hlo : lo ≤ w.heap.size := Nat.le_trans (Nat.le_of_lt (Nat.lt_of_le_of_lt (h.fam.low i hi6).1 (h.fam.low i hi6).2)) (Nat.le_trans h.fam.big h.sep.size)
  obtain ⟨a', c', w', hr, ho, hcase⟩ := grow_lk negLk 54 h.own hn hlo
  have ho' : LkO w' lo (.slice a' (F.ln i + (q + 1)) c') (L i ++ List.replicate (q + 1) negLk) := by
    rw [List.replicate_succ', ← List.append_assoc, ← Nat.add_assoc]; exact ho
  refine ⟨a', c', w', hr, ?_⟩
  rcases hcase with ⟨g, rfl, rfl, rfl, hsz, hos, htp, hout, hblk⟩ | ⟨hb, g, rfl, hg⟩
  · rcases h.whr with ⟨he, rfl⟩ | ⟨g', he, hg'⟩
    · have hgg : g = F.gs i := by simpa using he
      subst hgg
      refine ⟨ho', .inl ⟨rfl, rfl⟩, ⟨fun j hj => ?_, h.fam.low, h.fam.one, h.fam.typ, h.fam.big⟩, ⟨hos.trans h.sep.os, htp.trans h.sep.tape, hout.trans h.sep.output, Nat.le_trans h.sep.size hsz, fun j hj hf => ?_⟩⟩
      · by_cases hji : j = i
        · subst hji
          have := ho'.prefix (k := F.ln j) (by omega)
          rw [List.take_append_of_le_length (by rw [h.fam.len j hj]; exact Nat.le_refl _), List.take_of_length_le (by rw [h.fam.len j hj]; exact Nat.le_refl _)] at this
          exact this
        · exact (h.fam.own j hj).same (hblk _ ((h.fam.own j hj).blk _ rfl).2 (fun e => hji (h.fam.one j i hj hi6 e)))
      · exact (hblk j (Nat.lt_of_lt_of_le hj h.sep.size) (fun e => h.fam.typ i hi6 (e ▸ hf))).trans (h.sep.block j hj hf)
    · have hgg : g = g' := by simpa using he
      subst hgg
      refine ⟨ho', .inr ⟨g, rfl, hg'⟩, ⟨fun j hj => ?_, h.fam.low, h.fam.one, h.fam.typ, h.fam.big⟩, ⟨hos.trans h.sep.os, htp.trans h.sep.tape, hout.trans h.sep.output, Nat.le_trans h.sep.size hsz, fun j hj hf => ?_⟩⟩
      · exact (h.fam.own j hj).same (hblk _ ((h.fam.own j hj).blk _ rfl).2 (fun e => by have := (h.fam.low j hj).2; have := h.fam.big; omega))
      · exact (hblk j (Nat.lt_of_lt_of_le hj h.sep.size) (by omega)).trans (h.sep.block j hj hf)
  · exact ⟨ho', .inr ⟨g, rfl, Nat.le_trans h.sep.size hg⟩, h.fam.below hb, h.sep.below hb⟩

end Go.Proofs.YtagldlchamlpdabDoor

namespace Go.Proofs.YtagldlchamlpdabDoor
open Go.RowKit

theorem infoS : (Tryd.prog.info? 28).map (fun i => (i.zero, i.size, i.bytes)) = some (some (.slice none 0 0), 1, 24) := by kernel_rfl
theorem LkO.grown {w w' : World} {base : Nat} {v : Value} {l : List Lk} {row : Option Nat} (h : LkO w base v l) (hg : w.grownBy w' row) (hne : ∀ k, v.ownBlock = some k → row ≠ some k) : LkO w' base v l := by
  refine ⟨h.1, ?_⟩
  rcases h.2 with h' | ⟨g, cap, cur, h', h1, h2, hr⟩
  · exact .inl h'
  · have hlt : g < w.heap.size := (Array.getElem?_eq_some_iff.1 h2).1
    exact .inr ⟨g, cap, cur, h', h1, (hg.block g hlt (fun e => hne g (by rw [h']; rfl) e.symm)).trans h2, hr⟩
theorem owns_form {w : World} {base e n : Nat} {v : Value} {xs : List Value} (h : w.ownsRow base e 1 v n xs) : ∃ a c, v = .slice a n c := by
  rcases h.2 with ⟨h', h0⟩ | ⟨g, cap, cur, h', _⟩
  · exact ⟨none, 0, by rw [h', h0]⟩
  · exact ⟨_, _, h'⟩
/-- The copies. -/
def Cop (F : Six) (ls : Nat → List Lk) (B : Nat) (w : World) (us : List Value) : Prop :=
  ∀ j (h : j < us.length), ∃ xa xc, us[j] = .slice xa (F.ln j) xc ∧ LkO w B (.slice xa (F.ln j) xc) (ls j)
theorem Cop.grown {F : Six} {ls : Nat → List Lk} {B : Nat} {w w' : World} {us : List Value} {v : Value} {n : Nat} {xs : List Value} (h : Cop F ls B w us) (ho : w.ownsRow B 28 1 v n xs) (hg : w.grownBy w' v.ownBlock) : Cop F ls B w' us := fun j hj => by
  obtain ⟨xa, xc, e, h1⟩ := h j hj
  refine ⟨xa, xc, e, h1.grown hg (fun k hk he => ?_)⟩
  rcases h1.2 with ⟨h', _⟩ | ⟨g, _, cur, h', _, hg1, _⟩
  · rw [h'] at hk; cases hk
  · rcases ho.2 with ⟨h2, _⟩ | ⟨g2, _, cur2, h2, _, hg2, _⟩
    · rw [h2] at he; cases he
    · have e1 : k = g := by rw [h'] at hk; simpa [Value.ownBlock] using hk.symm
      have e2 : k = g2 := by rw [h2] at he; simpa [Value.ownBlock] using he.symm
      rw [← e1] at hg1
      rw [← e2] at hg2
      rw [hg1] at hg2
      simp at hg2

set_option maxRecDepth 20000 in
set_option maxHeartbeats 2000000 in
theorem linksof_any (F : Six) (ls : Nat → List Lk) (ra : Nat) (w : World) (hc : ∀ j, j < 6 → w.cell? ⟨ra, j, none⟩ = some (F.at j)) (hl : ∀ j, j < 6 → LkR w (F.at j) (ls j)) (hn : ∀ j, j < 6 → (ls j).length = F.ln j ∧ F.ln j ≤ 200) :
    Calls Tryd.prog 24 #[.slice (some ⟨ra, 0, none⟩) 6 6] w fun e w' => ∃ (us : List Value) (u : Value), e = .returned u ∧ us.length = 6 ∧ w'.ownsRow w.heap.size 28 1 u 6 us ∧ Cop F ls w.heap.size w' us ∧ Below w.heap.size w w' := by
  have HC := hide hc
  have HL := hide hl
  have HN := hide hn
  clear hc hl hn
  go_enter Tryd.func24, Tryd.ntmps24
  go_wp2
  go_loopw [3, 4] (fun o i wr => ∃ (k : Nat) (us : List Value), k ≤ 6 ∧ i = .int .i64 (k : Int) ∧ us.length = k ∧ wr.ownsRow w.heap.size 28 1 o k us ∧ Cop F ls w.heap.size wr us ∧ Below w.heap.size w wr) (fun _ i _ => 6 - (intOf i).toNat)
  case atStart => exact ⟨0, [], Nat.zero_le _, rfl, rfl, World.ownsRow_nil _ _ _ _, fun j h => by simp at h, Below.refl _ _⟩
  case round =>
    obtain ⟨k, us, hk, rfl, hul, hown, hcop, hbw⟩ := hrel
    by_cases hlt : k < 6
    · have c1 : wr.cell? ⟨ra, k, none⟩ = some (F.at k) := (hbw.cell (p := ⟨ra, k, none⟩) (World.block_lt_of_cell? w _ (HC.out k hlt))).trans (HC.out k hlt)
      obtain ⟨oa, oc, hof⟩ := owns_form hown
      subst hof
      obtain ⟨a1, cc1, w1, hrun1, ho1, hg1⟩ := append_lks w.heap.size (.slice none 0 0) (F.at k) [] (ls k) wr (LkO.nil _ _) ((HL.out k hlt).below hbw) (by have := HN.out k hlt; simp only [List.length_nil]; omega) hbw.size
      rw [List.length_nil, Nat.zero_add, (HN.out k hlt).1] at hrun1 ho1
      rw [List.nil_append] at ho1
      have hb1 : Below wr.heap.size wr w1 := (Below.refl _ _).grown hg1 (Nat.le_refl _) (fun j hj => by cases hj)
      have hown1 : w1.ownsRow w.heap.size 28 1 (.slice oa k oc) k us := own_below hown hb1
      have hcop1 : Cop F ls w.heap.size w1 us := fun j hj => by
        obtain ⟨xa, xc, e, h1⟩ := hcop j hj
        exact ⟨xa, xc, e, h1.below hb1⟩
      have q2 := below_new w1 (.cells #[.slice a1 (F.ln k) cc1] 28)
      have hrow : RowR (w1.alloc (.cells #[.slice a1 (F.ln k) cc1] 28)) (.slice (some ⟨w1.heap.size, 0, none⟩) 1 1) [.slice a1 (F.ln k) cc1] := by
        refine ⟨_, _, rfl, Nat.le_refl _, fun h => (by cases h), fun j u hj => ⟨_, _, rfl, ?_⟩⟩
        have hj0 : j = 0 := by have := (List.getElem?_eq_some_iff.1 hj).1; simpa using this
        subst hj0
        simp at hj
        subst hj
        exact (boxed_new w1 #[.slice a1 (F.ln k) cc1] 28).2 0 (by simp)
      obtain ⟨a2, cc2, w2, hrun2, ho2, hg2⟩ := append_row 57 28 _ 24 infoS Tryd.underlying57 rfl w.heap.size k (.slice oa k oc) us (w1.alloc (.cells #[.slice a1 (F.ln k) cc1] 28)) (own_below hown1 q2) _ _ hrow (fun u hu => by simp at hu; subst hu; rfl) (by simp only [List.length_singleton]; omega) (by decide) (by have := hbw.size; have := hb1.size; have := q2.size; omega)
      have hcop2 : Cop F ls w.heap.size w2 (us ++ [.slice a1 (F.ln k) cc1]) := by
        have h0 : Cop F ls w.heap.size (w1.alloc (.cells #[.slice a1 (F.ln k) cc1] 28)) (us ++ [.slice a1 (F.ln k) cc1]) := fun j hj => by
          by_cases hjk : j < us.length
          · obtain ⟨xa, xc, e, h1⟩ := hcop1 j hjk
            exact ⟨xa, xc, by rw [List.getElem_append_left hjk]; exact e, h1.below q2⟩
          · have hje : j = us.length := by rw [List.length_append] at hj; simp at hj; omega
            subst hje
            refine ⟨a1, cc1, by rw [List.getElem_append_right (Nat.le_refl _)]; simp [hul], ?_⟩
            rw [hul]
            exact ho1.below q2
        exact h0.grown (own_below hown1 q2) hg2
      have hb2 : Below w.heap.size w w2 := (Below.next (Below.next hbw hb1) q2).grown hg2 (by have := hbw.size; have := hb1.size; have := q2.size; omega) (fun j hj => (World.ownsRow.lt hown j hj).1)
      simp only [List.length_singleton] at hrun2 ho2
      have HCOP := hide hcop2
      have HOWN := hide ho2
      have HB := hide hb2
      have hltI : (k : Int) < 6 := by omega
      have hk0 : (0 : Int) ≤ (k : Int) := by omega
      obtain ⟨gk, lk, ck, hF⟩ : ∃ g l c, F.at k = .slice (some ⟨g, 0, none⟩) l c := ⟨_, _, _, rfl⟩
      rw [hF] at c1 hrun1
      have HUL := hide hul
      clear hF hcop hown hbw ho1 hg1 hb1 hown1 hcop1 q2 hrow hg2 hcop2 hb2 ho2 hul
      go_wp2_with (first | (at_builtin; refine wpList_append_run 28 rfl (.tmp 12) (.tmp 16) rfl rfl _ _ rfl rfl _ _ hrun1 ?_; clear hrun1) | (at_builtin; refine wpList_append_run 57 rfl (.tmp 18) (.tmp 20) rfl rfl _ _ rfl rfl _ _ hrun2 ?_; clear hrun2))
      go_wp2
      go_roundw
      case rel => exact ⟨k + 1, _, by omega, by go_num, by rw [List.length_append, HUL.out]; rfl, HOWN.out, HCOP.out, HB.out⟩
      case measure => simp [intOf]; omega
    · have hk6 : k = 6 := by omega
      subst hk6
      have HU := hide hul
      have HO := hide hown
      have HCP := hide hcop
      have HB := hide hbw
      clear hul hown hcop hbw
      go_wp2
      go_ret
      exact ⟨us, _, rfl, HU.out, HO.out, HCP.out, HB.out⟩

end Go.Proofs.YtagldlchamlpdabDoor
