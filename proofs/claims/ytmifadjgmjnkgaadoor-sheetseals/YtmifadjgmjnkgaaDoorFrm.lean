import Derived.Test.YtmifadjgmjnkgaaDoorPg
import Derived.Test.YtmifadjgmjnkgaaDoorHide
namespace Go.Proofs.YtmifadjgmjnkgaaDoor
open Go.RowKit

/-- Of the blocks that were there all but the excepted ones are as they were. -/
structure Fr (w w' : World) (ex : Nat → Prop) : Prop where
  os : w'.os = w.os
  tape : w'.tape = w.tape
  output : w'.output = w.output
  size : w.heap.size ≤ w'.heap.size
  block : ∀ k, k < w.heap.size → ¬ ex k → w'.heap[k]? = w.heap[k]?

theorem Fr.refl (w : World) (ex : Nat → Prop) : Fr w w ex := ⟨rfl, rfl, rfl, Nat.le_refl _, fun _ _ _ => rfl⟩
theorem Fr.weaken {w w' : World} {ex ex2 : Nat → Prop} (h : Fr w w' ex) (hx : ∀ k, ex k → ex2 k) : Fr w w' ex2 := ⟨h.os, h.tape, h.output, h.size, fun k hk he => h.block k hk (fun h' => he (hx k h'))⟩
theorem Fr.setCell {w w' : World} {ex : Nat → Prop} (h : Fr w w' ex) {g j : Nat} (hg : ex g) (u : Value) : Fr w (w'.setCell ⟨g, j, none⟩ u) ex :=
  ⟨h.os, h.tape, h.output, by simpa [World.setCell] using h.size, fun k hk he => by
    rw [Below.heap_setCell _ _ _ _ (fun e => he (by have : k = g := e; rw [this]; exact hg))]
    exact h.block k hk he⟩
theorem Fr.grown {w w' w2 : World} {ex : Nat → Prop} (h : Fr w w' ex) {o : Obj} {row : Option Nat} (hg : (w'.alloc o).grownBy w2 row) (hr : ∀ k, k < w.heap.size → some k = row → ex k) : Fr w w2 ex :=
  ⟨hg.os.trans h.os, hg.tape.trans h.tape, hg.output.trans h.output, Nat.le_trans h.size (Nat.le_trans (by simp) hg.size), fun k hk he => by
    have hk' : k < w'.heap.size := Nat.lt_of_lt_of_le hk h.size
    rw [hg.block k (by simp; omega) (fun e => he (hr k hk e)), Below.heap_alloc _ _ _ hk']
    exact h.block k hk he⟩
theorem Fr.owns {w w' : World} {ex : Nat → Prop} (h : Fr w w' ex) {b e size n : Nat} {v : Value} {xs : List Value} (ho : w.ownsRow b e size v n xs) (hv : ∀ k, v.ownBlock = some k → ¬ ex k) : w'.ownsRow b e size v n xs := by
  refine ⟨ho.1, ?_⟩
  rcases ho.2 with h' | ⟨g, cap, cur, h', h1, hg, hr⟩
  · exact .inl h'
  · refine .inr ⟨g, cap, cur, h', h1, ?_, hr⟩
    have hlt : g < w.heap.size := by
      rcases Nat.lt_or_ge g w.heap.size with hlt | hge
      · exact hlt
      · rw [Array.getElem?_eq_none hge] at hg; cases hg
    rw [h.block g hlt (hv g (by rw [h']; rfl))]
    exact hg
theorem Fr.below {w0 w w' : World} {ex : Nat → Prop} (h : Fr w w' ex) (hb : Below w0.heap.size w0 w) (hx : ∀ k, k < w0.heap.size → ¬ ex k) : Below w0.heap.size w0 w' :=
  hb.trans ⟨h.os, h.tape, h.output, h.size, fun k hk => h.block k (Nat.lt_of_lt_of_le hk hb.size) (hx k hk)⟩
theorem Fr.boxed {w w' : World} {ex : Nat → Prop} (h : Fr w w' ex) {b : Nat} {cs : List Value} (hb : Boxed b cs w) (hx : ¬ ex b) : Boxed b cs w' :=
  ⟨Nat.lt_of_lt_of_le hb.1 h.size, fun j hj => (World.cell?_of_block (a := ⟨b, j, none⟩) (h.block b hb.1 hx)).trans (hb.2 j hj)⟩

theorem set_at (c : UInt8) (r : List UInt8) (k : Nat) (hk : k < r.length) : (List.replicate k c ++ r.drop k).set k c = List.replicate (k + 1) c ++ r.drop (k + 1) := by
  rw [List.set_append_right _ _ (by simp), List.replicate_succ', List.append_assoc]
  simp only [List.length_replicate, Nat.sub_self]
  rw [List.drop_eq_getElem_cons hk, List.set_cons_zero]
  rfl
theorem u8s_set1 (q : List UInt8) (j : Nat) (d : UInt8) : (u8s q).set j (.int .u8 (d.toNat : Int)) = u8s (q.set j d) := by
  simp [u8s, List.map_set]

/-- One round of 'x[i] = c': the row and its frame. -/
theorem fill_step {w wr : World} {ex : Nat → Prop} {b g n cap : Nat} {r : List UInt8} (c : UInt8) (k : Nat) (hr : r.length = n) (hk : k < n) (hg : ex g)
    (ho : wr.ownsRow b 5 1 (.slice (some ⟨g, 0, none⟩) n cap) n (u8s (List.replicate k c ++ r.drop k))) (hf : Fr w wr ex) :
    (wr.setCell ⟨g, k, none⟩ (.int .u8 (c.toNat : Int))).ownsRow b 5 1 (.slice (some ⟨g, 0, none⟩) n cap) n (u8s (List.replicate (k + 1) c ++ r.drop (k + 1))) ∧
    Fr w (wr.setCell ⟨g, k, none⟩ (.int .u8 (c.toNat : Int))) ex := by
  have h := (ho.stored k (.int .u8 (c.toNat : Int))).1
  rw [u8s_set1, set_at c r k (by omega)] at h
  exact ⟨h, hf.setCell hg _⟩

/-- What holds while one list grows. -/
structure Inv1 (w wr : World) (b : Nat) (oa : Option Nat) (vL : Value) (nL : Nat) : Prop where
  own : ∃ xs, wr.ownsRow b 5 1 vL nL (u8s xs)
  on : vL.ownBlock = oa ∨ ∃ q, vL.ownBlock = some q ∧ w.heap.size ≤ q
  fr : Fr w wr (fun k => some k = oa)
theorem Inv1.grow {w wr w1 : World} {b g cap nL : Nat} {oa : Option Nat} {vL : Value} {o : Obj} {xs : List UInt8} (h : Inv1 w wr b oa vL nL) (hgrow : (wr.alloc o).grownBy w1 vL.ownBlock)
    (hown : w1.ownsRow b 5 1 (.slice (some ⟨g, 0, none⟩) (nL + 1) cap) (nL + 1) (u8s xs)) (hat : vL.ownBlock = some g ∨ g = wr.heap.size + 1) :
    Inv1 w w1 b oa (.slice (some ⟨g, 0, none⟩) (nL + 1) cap) (nL + 1) := by
  refine ⟨⟨_, hown⟩, ?_, ?_⟩
  · rcases hat with h1 | h1
    · rcases h.on with h2 | ⟨q, h2, h3⟩
      · exact .inl (by rw [← h2, h1]; rfl)
      · exact .inr ⟨g, rfl, by rw [h1] at h2; cases h2; exact h3⟩
    · exact .inr ⟨g, rfl, by have := h.fr.size; omega⟩
  · refine h.fr.grown hgrow (fun k hk he => ?_)
    rcases h.on with h2 | ⟨q, h2, h3⟩
    · exact he.trans h2
    · rw [h2] at he; cases he; omega

end Go.Proofs.YtmifadjgmjnkgaaDoor
