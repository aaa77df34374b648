import Derived.Test.YtiihnoohodklhaaDoorFRSeal
import Derived.Test.YtiihnoohodklhaaDoorFNum
import Derived.Test.YtiihnoohodklhaaDoorSM
import Derived.Test.YtiihnoohodklhaaDoorDAp2
import Derived.Test.YtiihnoohodklhaaDoorKO
namespace Go.Proofs.YtiihnoohodklhaaDoor
open Go.RowKit

/-- The first k of a list are new. -/
def mix (a b : List Ch) (k : Nat) : List Ch := a.take k ++ b.drop k
theorem mix_zero (a b : List Ch) : mix a b 0 = b := rfl
theorem mix_end {a b : List Ch} {k : Nat} (ha : a.length = k) (hb : b.length = k) : mix a b k = a := by
  unfold mix
  rw [List.drop_eq_nil_of_le (by omega), List.append_nil, List.take_of_length_le (by omega)]
theorem mix_len {a b : List Ch} (h : a.length = b.length) (k : Nat) : (mix a b k).length = b.length := by
  unfold mix
  rw [List.length_append, List.length_take, List.length_drop]; omega
theorem mix_set {a b : List Ch} (h : a.length = b.length) (k : Nat) (hk : k < b.length) : (mix a b k).set k (a[k]'(by omega)) = mix a b (k + 1) := by
  have e : a.take (k + 1) = a.take k ++ [a[k]'(by omega)] := by rw [List.take_add_one, List.getElem?_eq_getElem (by omega)]; rfl
  unfold mix
  rw [e, List.set_append_right _ _ (by rw [List.length_take]; omega), List.length_take, Nat.min_eq_left (by omega), Nat.sub_self, List.drop_eq_getElem_cons hk, List.set_cons_zero, List.append_assoc]
  rfl
theorem mix_get {a b : List Ch} (h : a.length = b.length) (k : Nat) (hk : k < b.length) : (mix a b k)[k]'(by rw [mix_len h]; exact hk) = b[k] := by
  unfold mix
  rw [List.getElem_append_right (by rw [List.length_take]; omega)]
  simp only [List.getElem_drop, List.length_take]
  congr 1
  omega
theorem mark_set {b : List Ch} {n : Nat} (x : Ch) (h : n = b.length) (k : Nat) (hk : k < n) : (mix (List.replicate n x) b k).set k x = mix (List.replicate n x) b (k + 1) := by
  have := mix_set (a := List.replicate n x) (b := b) (by rw [List.length_replicate]; exact h) k (by omega)
  rwa [List.getElem_replicate] at this
/-- A mark. -/
def keyC (k : ByteArray) : Ch := (k, ⟨false, false, nilB, nilB⟩)
def xC (c : Ch) : Ch := (c.1, ⟨c.2.had, c.2.has, c.2.old, c.2.new ++ ⟨#[120]⟩⟩)

/-- The list that is given, with marks behind it in the same memory. -/
structure Gv (W : World) (base g n c : Nat) (gl : List Ch) : Prop where
  own : ChO W base (.slice (some ⟨g, 0, none⟩) (n + 64) c) (gl ++ List.replicate 64 mkC)
  cap : n + 64 ≤ c
  len : gl.length = n
section
variable {W W' : World} {base g n c : Nat} {gl : List Ch}
theorem Gv.read (h : Gv W base g n c gl) : ChR W (.slice (some ⟨g, 0, none⟩) n c) gl := by
  have := h.own.at.take (m := n) (by omega)
  rwa [List.take_left' h.len] at this
theorem Gv.below (h : Gv W base g n c gl) (hb : Below W.heap.size W W') : Gv W' base g n c gl := ⟨h.own.below hb, h.cap, h.len⟩
theorem Gv.lt (h : Gv W base g n c gl) : base ≤ g ∧ g < W.heap.size := h.own.blk g rfl
theorem Gv.same (h : Gv W base g n c gl) (hb : W'.heap[g]? = W.heap[g]?) : Gv W' base g n c gl := ⟨cho_same h.own (fun k hk => by cases hk; exact hb), h.cap, h.len⟩
theorem Gv.spot (h : Gv W base g n c gl) (k : Nat) (hk : k < n) : ChAt W g (k * 5) (gl[k]'(by rw [h.len]; exact hk)) ∧ ∀ o, W.frozen? ⟨g, o, none⟩ = false := by
  have hl := h.len
  have := h.own.spot k (by rw [List.length_append]; omega)
  rwa [List.getElem_append_left (by omega)] at this
theorem Gv.spotx (h : Gv W base g n c gl) (k : Nat) (hk : k < n) : ∃ y : Ch, ChAt W g (k * 5) y ∧ ∀ o, W.frozen? ⟨g, o, none⟩ = false := ⟨_, h.spot k hk⟩
theorem cho_spotx {cap : Nat} {l : List Ch} (h : ChO W base (.slice (some ⟨g, 0, none⟩) n cap) l) (k : Nat) (hk : k < l.length) : ∃ y : Ch, ChAt W g (k * 5) y ∧ ∀ o, W.frozen? ⟨g, o, none⟩ = false := ⟨_, (ChO.spot h k hk).1, (ChO.spot h k hk).2⟩
theorem Gv.wrote5 (h : Gv W base g n c gl) (k : Nat) (hk : k < n) (p : Ch) : Gv (((((W.setCell ⟨g, k * 5, none⟩ (.string p.1)).setCell ⟨g, k * 5 + 1, none⟩ (.bool p.2.had)).setCell ⟨g, k * 5 + 2, none⟩ (.bool p.2.has)).setCell ⟨g, k * 5 + 3, none⟩ (.string p.2.old)).setCell ⟨g, k * 5 + 4, none⟩ (.string p.2.new)) base g n c (gl.set k p) := by
  have hl := h.len
  have := h.own.wrote5 k (by rw [List.length_append]; omega) p
  rw [List.set_append_left _ _ (by omega)] at this
  exact ⟨this, h.cap, by rw [List.length_set]; exact hl⟩
theorem Gv.wrote4 (h : Gv W base g n c gl) (k : Nat) (hk : k < n) (y : ByteArray) : Gv (W.setCell ⟨g, k * 5 + 4, none⟩ (.string y)) base g n c (gl.set k ((gl[k]'(by rw [h.len]; exact hk)).1, ⟨(gl[k]'(by rw [h.len]; exact hk)).2.had, (gl[k]'(by rw [h.len]; exact hk)).2.has, (gl[k]'(by rw [h.len]; exact hk)).2.old, y⟩)) := by
  have hl := h.len
  have := h.own.wrote4 k (by rw [List.length_append]; omega) y
  rw [List.set_append_left _ _ (by omega)] at this
  simp only [List.getElem_append_left (show k < gl.length by omega)] at this
  exact ⟨this, h.cap, by rw [List.length_set]; exact hl⟩
end
/-- A batch in a box of its own; its list lies between s and the box. -/
structure Bt (W : World) (b : Nat) (F T S : Int) (v : Value) (l : List Ch) (s : Nat) : Prop where
  row : RowAt W b #[.int .u64 F, .int .u64 T, v, .int .u32 S] 29
  own : ChO W s v l
  lt : ∀ k, v.ownBlock = some k → k < b
  sb : s ≤ b
section
variable {W W' : World} {b : Nat} {F T S : Int} {v : Value} {l : List Ch} {s : Nat}
theorem Bt.new (ho : ChO W s v l) (hs : s ≤ W.heap.size) : Bt (W.alloc (.cells #[.int .u64 F, .int .u64 T, v, .int .u32 S] 29)) W.heap.size F T S v l s :=
  ⟨RowAt.new _ _ _, ho.below (below_new _ _), fun k hk => (ho.blk k hk).2, hs⟩
theorem Bt.same (h : Bt W b F T S v l s) (hb : W'.heap[b]? = W.heap[b]?) (hk : ∀ k, s ≤ k → k < b → W'.heap[k]? = W.heap[k]?) : Bt W' b F T S v l s :=
  ⟨by have := h.row; unfold RowAt at this ⊢; rw [hb]; exact this, cho_same h.own (fun k e => hk k (h.own.blk k e).1 (h.lt k e)), h.lt, h.sb⟩
theorem Bt.below (h : Bt W b F T S v l s) (hb : Below W.heap.size W W') : Bt W' b F T S v l s :=
  h.same (hb.block b h.row.lt) (fun k _ hk => hb.block k (by have := h.row.lt; omega))
theorem Bt.sole {g : Nat} (h : Bt W b F T S v l s) (hg : g < s) (hs : Sole g W W') : Bt W' b F T S v l s :=
  h.same (hs.block b h.row.lt (by have := h.sb; omega)) (fun k h1 hk => hs.block k (by have := h.row.lt; omega) (by omega))
end
/-- All that the law has made. -/
structure Sa (w W : World) (fr tt : Nat) (vL : Value) (g n c : Nat) (gl : List Ch) : Prop where
  bel : Below w.heap.size w W
  box : RowAt W w.heap.size #[.int .u64 (fr : Int), .int .u64 (tt : Int), vL] 25
  gv : Gv W (w.heap.size + 1) g n c gl
theorem Sa.below {w W W' : World} {fr tt : Nat} {vL : Value} {g n c : Nat} {gl : List Ch} (h : Sa w W fr tt vL g n c gl) (hb : Below W.heap.size W W') : Sa w W' fr tt vL g n c gl :=
  ⟨Below.next h.bel hb, h.box.below hb, h.gv.below hb⟩
theorem Sa.wrote {w W W' : World} {fr tt : Nat} {vL : Value} {g n c : Nat} {gl gl' : List Ch} (h : Sa w W fr tt vL g n c gl) (hs : Sole g W W') (hg : Gv W' (w.heap.size + 1) g n c gl') : Sa w W' fr tt vL g n c gl' := by
  have h1 := h.gv.lt
  refine ⟨⟨hs.os.trans h.bel.os, hs.tape.trans h.bel.tape, hs.output.trans h.bel.output, Nat.le_trans h.bel.size hs.size, fun k hk => (hs.block k (by have := h.bel.size; omega) (by omega)).trans (h.bel.block k hk)⟩, ?_, hg⟩
  have := h.box
  unfold RowAt at this ⊢
  rw [hs.block _ h.box.lt (by omega)]; exact this
theorem Sa.other {w W W' : World} {fr tt : Nat} {vL : Value} {g n c k : Nat} {gl : List Ch} (h : Sa w W fr tt vL g n c gl) (hs : Sole k W W') (hk : g < k) : Sa w W' fr tt vL g n c gl := by
  have h1 := h.gv.lt
  refine ⟨⟨hs.os.trans h.bel.os, hs.tape.trans h.bel.tape, hs.output.trans h.bel.output, Nat.le_trans h.bel.size hs.size, fun j hj => (hs.block j (by have := h.bel.size; omega) (by omega)).trans (h.bel.block j hj)⟩, ?_, h.gv.same (hs.block g h1.2 (by omega))⟩
  have := h.box
  unfold RowAt at this ⊢
  rw [hs.block _ h.box.lt (by omega)]; exact this
theorem Bt.wrote5 {W : World} {b : Nat} {F T S : Int} {g m c : Nat} {l : List Ch} {s : Nat} (h : Bt W b F T S (.slice (some ⟨g, 0, none⟩) m c) l s) (k : Nat) (hk : k < l.length) (p : Ch) : Bt (((((W.setCell ⟨g, k * 5, none⟩ (.string p.1)).setCell ⟨g, k * 5 + 1, none⟩ (.bool p.2.had)).setCell ⟨g, k * 5 + 2, none⟩ (.bool p.2.has)).setCell ⟨g, k * 5 + 3, none⟩ (.string p.2.old)).setCell ⟨g, k * 5 + 4, none⟩ (.string p.2.new)) b F T S (.slice (some ⟨g, 0, none⟩) m c) (l.set k p) s := by
  have hg := h.lt g rfl
  refine ⟨?_, h.own.wrote5 k hk p, h.lt, h.sb⟩
  have := h.row
  unfold RowAt at this ⊢
  rw [(sole_wrote W g (k * 5) p).block b h.row.lt (by omega)]; exact this
/-- A batch whose list has grown: it lies between s and the box, or beyond E. -/
structure Bg (W : World) (b : Nat) (F T S : Int) (v : Value) (l : List Ch) (s E : Nat) : Prop where
  row : RowAt W b #[.int .u64 F, .int .u64 T, v, .int .u32 S] 29
  own : ChO W s v l
  lt : ∀ k, v.ownBlock = some k → k < b ∨ E ≤ k
  sb : s ≤ b
  be : b < E
  sz : E ≤ W.heap.size
theorem Bt.grows {W : World} {b : Nat} {F T S : Int} {v : Value} {l : List Ch} {s : Nat} (h : Bt W b F T S v l s) : Bg W b F T S v l s W.heap.size :=
  ⟨h.row, h.own, fun k hk => .inl (h.lt k hk), h.sb, h.row.lt, Nat.le_refl _⟩
/-- What a push to such a batch leaves. -/
structure Fw (s b E : Nat) (W W' : World) : Prop where
  os : W'.os = W.os
  tape : W'.tape = W.tape
  output : W'.output = W.output
  size : W.heap.size ≤ W'.heap.size
  blk : ∀ j, j < E → (j < s ∨ b < j) → W'.heap[j]? = W.heap[j]?
theorem Fw.refl (s b E : Nat) (W : World) : Fw s b E W W := ⟨rfl, rfl, rfl, Nat.le_refl _, fun _ _ _ => rfl⟩
theorem Fw.trans {s b E : Nat} {W W' W'' : World} (h : Fw s b E W W') (k : Fw s b E W' W'') : Fw s b E W W'' :=
  ⟨k.os.trans h.os, k.tape.trans h.tape, k.output.trans h.output, Nat.le_trans h.size k.size, fun j h1 h2 => (k.blk j h1 h2).trans (h.blk j h1 h2)⟩
theorem Bg.step {W : World} {b : Nat} {F T S : Int} {a : Option Addr} {n c : Nat} {l : List Ch} {s E : Nat} (h : Bg W b F T S (.slice a n c) l s E) (p : Ch) (hn : n ≤ 1200000000000) :
    ∃ a' c' w', (Builtin.append_ #[23, 23] 23 #[.slice a n c, .slice (some ⟨W.heap.size, 0, none⟩) 1 1]).run Tryd.prog (W.alloc (.cells #[.string p.1, .bool p.2.had, .bool p.2.has, .string p.2.old, .string p.2.new] 39)) = .ok (.slice a' (n + 1) c') w' ∧ RowAt w' b #[.int .u64 F, .int .u64 T, .slice a n c, .int .u32 S] 29 ∧
      Bg (w'.setCell ⟨b, 2, none⟩ (.slice a' (n + 1) c')) b F T S (.slice a' (n + 1) c') (l ++ [p]) s E ∧ Fw s b E W (w'.setCell ⟨b, 2, none⟩ (.slice a' (n + 1) c')) := by
  have hsE : s ≤ W.heap.size := by have := h.sb; have := h.be; have := h.sz; omega
  have hbE := h.be
  have hEs := h.sz
  have hsb := h.sb
  obtain ⟨a', c', w', hrun, ho, hg⟩ := grow_ch p 39 h.own hn hsE
  have hkeep : W.heap.size ≤ w'.heap.size ∧ w'.os = W.os ∧ w'.tape = W.tape ∧ w'.output = W.output ∧ (∀ j, j < E → (j < s ∨ b ≤ j) → w'.heap[j]? = W.heap[j]?) ∧ (∀ k, (Value.slice a' (n + 1) c').ownBlock = some k → k < b ∨ E ≤ k) := by
    rcases hg with ⟨g, rfl, rfl, rfl, h1, h2, h3, h4, h5⟩ | ⟨hb, g, rfl, h1⟩
    · have hg1 : g < b ∨ E ≤ g := h.lt g rfl
      have hg2 : s ≤ g := (h.own.blk g rfl).1
      exact ⟨h1, h2, h3, h4, fun j hj hq => h5 j (by omega) (by omega), h.lt⟩
    · exact ⟨hb.size, hb.os, hb.tape, hb.output, fun j hj _ => hb.block j (by omega), fun k hk => .inr (by have e : g = k := (by simpa [Value.ownBlock] using hk); omega)⟩
  obtain ⟨k1, k2, k3, k4, k5, k6⟩ := hkeep
  have hrow : RowAt w' b #[.int .u64 F, .int .u64 T, .slice a n c, .int .u32 S] 29 := by
    have := h.row
    unfold RowAt at this ⊢
    rw [k5 b hbE (.inr (Nat.le_refl _))]; exact this
  have hso := Sole.set b 2 w' (.slice a' (n + 1) c')
  refine ⟨a', c', w', hrun, hrow, ⟨Go.heap_setCell_same w' b 2 _ 29 _ hrow, cho_same ho (fun k hk => Below.heap_setCell _ _ _ _ (fun e => by have e2 : k = b := e; have := k6 k hk; omega)), k6, hsb, hbE, by simp; omega⟩, ⟨hso.os.trans k2, hso.tape.trans k3, hso.output.trans k4, Nat.le_trans k1 hso.size, fun j hj hq => (Below.heap_setCell _ _ _ _ (fun e => by have e2 : j = b := e; omega)).trans (k5 j hj (by omega))⟩⟩
theorem Bt.fw {W W' : World} {b b2 : Nat} {F T S : Int} {v : Value} {l : List Ch} {s s2 E : Nat} (h : Bt W b2 F T S v l s2) (hf : Fw s b E W W') (h1 : b < s2) (h2 : b2 < E) : Bt W' b2 F T S v l s2 :=
  h.same (hf.blk b2 h2 (by have := h.sb; omega)) (fun k hk hk2 => hf.blk k (by omega) (by omega))
theorem Sa.fw {w W W' : World} {fr tt : Nat} {vL : Value} {g n c s b E : Nat} {gl : List Ch} (h : Sa w W fr tt vL g n c gl) (hf : Fw s b E W W') (h1 : g < s) (h2 : g < E) : Sa w W' fr tt vL g n c gl := by
  have h3 := h.gv.lt
  refine ⟨⟨hf.os.trans h.bel.os, hf.tape.trans h.bel.tape, hf.output.trans h.bel.output, Nat.le_trans h.bel.size hf.size, fun k hk => (hf.blk k (by omega) (by omega)).trans (h.bel.block k hk)⟩, ?_, h.gv.same (hf.blk g h2 (.inl h1))⟩
  have := h.box
  unfold RowAt at this ⊢
  rw [hf.blk _ (by omega) (by omega)]; exact this
end Go.Proofs.YtiihnoohodklhaaDoor
