import Derived.Test.YtdieacdkomiooabDoorBegun2
namespace Go.Proofs.YtdieacdkomiooabDoor
open Go.RowKit Go.Maps

theorem Bg.crash2 {A : Nat → Addr} {w wr : World} {b : Nat} {F : Nat → Prop} {d : Dev} (h : Bg A w wr b F d) (hp : d.pend.length ≤ 140737488355328) (l : List Fate) (v : Value) (n : Nat) (hv : wr.ownsRow n 92 4 v l.length (fateCells l)) :
    Calls Tryd.prog 9 #[.pointer (some ⟨b, 0, none⟩), v] wr fun e w'' => e = .returned (.tuple #[]) ∧ ∃ F', Bg A w w'' b F' (d.crash l) ∧ Step F F' wr w'' := by
  refine (crash_any b F d wr h.dev l v ⟨hv.1, hv.2.imp id fun ⟨g, cap, cur, q1, _, q3⟩ => ⟨g, cap, cur, q1, Nat.zero_le _, q3⟩⟩ hp).mono ?_
  rintro e w'' ⟨rfl, F', hd, hs⟩
  exact ⟨rfl, F', h.go hd hs, hs⟩
theorem Bg.revive2 {A : Nat → Addr} {w wr : World} {b : Nat} {F : Nat → Prop} {d : Dev} (h : Bg A w wr b F d) :
    Calls Tryd.prog 12 #[.pointer (some ⟨b, 0, none⟩)] wr fun e w'' => e = .returned (.tuple #[]) ∧ Bg A w w'' b F d.revive ∧ Step F F wr w'' := by
  refine (revive_any b F d wr h.dev).mono ?_
  rintro e w'' ⟨rfl, hd, hs⟩
  exact ⟨rfl, h.go hd hs, hs⟩

theorem bdrew {n : Nat} {a w : World} (h : Below n a w) : Below n a w.drew := ⟨h.os, h.tape, h.output, h.size, h.block⟩

/-- Two devices, apart. -/
structure Two (A : Nat → Addr) (W wr : World) (b : Nat) (F : Nat → Prop) (d : Dev) (c : Nat) (G : Nat → Prop) (o : Dev) : Prop where
  one : Bg A W wr b F d
  two : Bg A W wr c G o
  no : ∀ k, F k → ¬ G k
theorem Two.up {A : Nat → Addr} {W wr w' : World} {b c : Nat} {F G : Nat → Prop} {d o : Dev} (h : Two A W wr b F d c G o) (hb : Below wr.heap.size wr w') : Two A W w' b F d c G o := ⟨h.one.up hb, h.two.up hb, h.no⟩
theorem Bg.keep {A : Nat → Addr} {W wr w' : World} {b : Nat} {F G G' : Nat → Prop} {d : Dev} (h : Bg A W wr b F d) (hs : Step G G' wr w') (hG : ∀ k, G k → W.heap.size ≤ k) (hn : ∀ k, F k → ¬ G k) : Bg A W w' b F d :=
  ⟨h.dev.keep hs hn, h.bel.trans (hs.below hG h.bel.size), h.far, h.err.step hs hG⟩
theorem Two.go2 {A : Nat → Addr} {W wr w' : World} {b c : Nat} {F G G' : Nat → Prop} {d o o' : Dev} (h : Two A W wr b F d c G o) (hb : Bg A W w' c G' o') (hs : Step G G' wr w') : Two A W w' b F d c G' o' :=
  ⟨h.one.keep hs h.two.far h.no, hb, fun k hf hg => (hs.sub k hg).elim (h.no k hf) (fun h' => by have := h.one.dev.lt k hf; omega)⟩
theorem Two.go1 {A : Nat → Addr} {W wr w' : World} {b c : Nat} {F F' G : Nat → Prop} {d d' o : Dev} (h : Two A W wr b F d c G o) (hb : Bg A W w' b F' d') (hs : Step F F' wr w') : Two A W w' b F' d' c G o :=
  ⟨hb, h.two.keep hs h.one.far (fun k hg hf => h.no k hf hg), fun k hf hg => (hs.sub k hf).elim (fun hf => h.no k hf hg) (fun h' => by have := h.two.dev.lt k hg; omega)⟩
/-- A row that a device's steps don't reach. -/
def RowAt (w : World) (G : Nat → Prop) (base e size : Nat) (v : Value) (n : Nat) (xs : List Value) : Prop := w.ownsRow base e size v n xs ∧ ∀ g, v.ownBlock = some g → ¬ G g
theorem RowAt.step {w w' : World} {G G' : Nat → Prop} {base e size n : Nat} {v : Value} {xs : List Value} (h : RowAt w G base e size v n xs) (hs : Step G G' w w') : RowAt w' G' base e size v n xs :=
  ⟨owns_step h.1 hs h.2, fun g hg hf => (hs.sub g hf).elim (h.2 g hg) (fun h' => by have := (owns_blk h.1 g hg).2.1; omega)⟩
theorem RowAt.up {w w' : World} {G : Nat → Prop} {base e size n : Nat} {v : Value} {xs : List Value} (h : RowAt w G base e size v n xs) (hb : Below w.heap.size w w') : RowAt w' G base e size v n xs := ⟨owns_below h.1 hb, h.2⟩


end Go.Proofs.YtdieacdkomiooabDoor
