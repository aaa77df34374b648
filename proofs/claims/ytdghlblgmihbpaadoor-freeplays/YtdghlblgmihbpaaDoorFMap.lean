import Derived.Test.YtdghlblgmihbpaaDoorFStep
import Derived.Test.YtdghlblgmihbpaaDoorFrPop
import Derived.Laws.Bits64b
namespace Go.Proofs.YtdghlblgmihbpaaDoor
open Go.RowKit

def nW (P : Nat) : Nat := (P + 63) / 64
def wcells (T : Nat → Bool) (n : Nat) : List Value := (List.range n).map fun i => .int .u64 (word T i : Int)
theorem wcells_length (T : Nat → Bool) (n : Nat) : (wcells T n).length = n := by simp [wcells]
theorem wcells_get (T : Nat → Bool) (n i : Nat) (h : i < n) : (wcells T n)[i]? = some (.int .u64 (word T i : Int)) := by simp [wcells, h]
theorem wcells_set (T : Nat → Bool) (n id : Nat) (x : Bool) : (wcells T n).set (id / 64) (.int .u64 (word (upd T id x) (id / 64) : Int)) = wcells (upd T id x) n := by
  apply List.ext_getElem?
  intro i
  by_cases hi : i < n
  · by_cases he : i = id / 64
    · subst he
      rw [List.getElem?_set_self (by rw [wcells_length]; exact hi), wcells_get _ _ _ hi]
    · rw [List.getElem?_set_ne (fun h => he h.symm), wcells_get _ _ _ hi, wcells_get _ _ _ hi, word_upd_ne _ _ _ _ he]
  · rw [List.getElem?_eq_none (by rw [List.length_set, wcells_length]; omega), List.getElem?_eq_none (by rw [wcells_length]; omega)]

/-- A map's two blocks: how many pages, the words. -/
structure MapR (w : World) (b g P : Nat) (T : Nat → Bool) : Prop where
  blk : w.heap[b]? = some (.cells #[.int .i64 P, .slice (some ⟨g, 0, none⟩) (nW P) (nW P)] 67 (0, 0))
  wds : w.ownsRow 0 68 1 (.slice (some ⟨g, 0, none⟩) (nW P) (nW P)) (nW P) (wcells T (nW P))
  hi : P ≤ 1048576
theorem lt_of_heap {w : World} {b : Nat} {o : Obj} (h : w.heap[b]? = some o) : b < w.heap.size := (Array.getElem?_eq_some_iff.1 h).1
theorem MapR.ltb {w : World} {b g P : Nat} {T : Nat → Bool} (h : MapR w b g P T) : b < w.heap.size := lt_of_heap h.blk
theorem MapR.ltg {w : World} {b g P : Nat} {T : Nat → Bool} (h : MapR w b g P T) : g < w.heap.size := (owns_blk h.wds g rfl).2.1
theorem MapR.ne {w : World} {b g P : Nat} {T : Nat → Bool} (h : MapR w b g P T) : b ≠ g := fun e => by
  obtain ⟨cur, hc⟩ := (owns_blk h.wds g rfl).2.2
  have := h.blk
  rw [e, hc] at this
  simp at this
theorem MapR.c0 {w : World} {b g P : Nat} {T : Nat → Bool} (h : MapR w b g P T) : w.cell? ⟨b, 0, none⟩ = some (.int .i64 P) := cell_of_row w b 0 _ _ _ h.blk
theorem MapR.c1 {w : World} {b g P : Nat} {T : Nat → Bool} (h : MapR w b g P T) : w.cell? ⟨b, 1, none⟩ = some (.slice (some ⟨g, 0, none⟩) (nW P) (nW P)) := cell_of_row w b 1 _ _ _ h.blk
theorem MapR.cw {w : World} {b g P : Nat} {T : Nat → Bool} (h : MapR w b g P T) (i : Nat) (hi : i < nW P) : w.cell? ⟨g, i, none⟩ = some (.int .u64 (word T i : Int)) := by
  rw [h.wds.cellAt i (by omega)]; exact wcells_get _ _ _ hi
theorem MapR.only {F : Nat → Prop} {w w' : World} {b g P : Nat} {T : Nat → Bool} (h : MapR w b g P T) (ho : Only F w w') (hb : ¬ F b) (hg : ¬ F g) : MapR w' b g P T :=
  ⟨(ho.block b h.ltb hb).trans h.blk, owns_only h.wds ho (fun k hk => by cases hk; exact hg), h.hi⟩
theorem MapR.below {w w' : World} {b g P : Nat} {T : Nat → Bool} (h : MapR w b g P T) (hb : Below w.heap.size w w') : MapR w' b g P T :=
  h.only (Only.of_below (F := fun _ => False) hb) id id
theorem MapR.stored {w : World} {b g P : Nat} {T : Nat → Bool} (h : MapR w b g P T) (id : Nat) (x : Bool) : MapR (w.setCell ⟨g, id / 64, none⟩ (.int .u64 (word (upd T id x) (id / 64) : Int))) b g P (upd T id x) :=
  ⟨(Below.heap_setCell w ⟨g, id / 64, none⟩ _ b h.ne).trans h.blk, by have := (h.wds.stored (id / 64) (.int .u64 (word (upd T id x) (id / 64) : Int))).1; rw [wcells_set] at this; exact this, h.hi⟩
theorem nW_le {P : Nat} (h : P ≤ 1048576) : nW P ≤ 16384 := by unfold nW; omega
theorem nW_lo (P : Nat) : P ≤ 64 * nW P := by unfold nW; omega

theorem bits_andNot_u64 (T : Nat → Bool) (id : Nat) : bits .andNot .u64 ((word T (id / 64) : Nat) : Int) ((2 ^ (id % 64) : Nat) : Int) = ((word (upd T id false) (id / 64) : Nat) : Int) := by
  have ha := word_lt T (id / 64)
  have hb := two_pow_lt id
  generalize hA : word T (id / 64) = a at ha
  generalize hB : 2 ^ (id % 64) = c at hb
  have h1 : (BitVec.ofInt 64 (a : Int)).toNat = a := by
    rw [BitVec.ofInt_natCast, BitVec.toNat_ofNat]; exact Nat.mod_eq_of_lt (by omega)
  have h2 : (BitVec.ofInt 64 (c : Int)).toNat = c := by
    rw [BitVec.ofInt_natCast, BitVec.toNat_ofNat]; exact Nat.mod_eq_of_lt (by omega)
  have hx : (BitVec.ofInt 64 (a : Int) &&& ~~~BitVec.ofInt 64 (c : Int)).toNat = word (upd T id false) (id / 64) := by
    apply word_unset
    intro j
    rw [hA, hB, BitVec.testBit_toNat, BitVec.getLsbD_and, BitVec.getLsbD_not, ← BitVec.testBit_toNat, ← BitVec.testBit_toNat, h1, h2]
    by_cases hj : j < 64
    · simp [hj]
    · simp [hj]
  show IntKind.u64.wrap ((BitVec.ofInt 64 (a : Int) &&& ~~~BitVec.ofInt 64 (c : Int)).toNat : Int) = _
  rw [hx, IntKind.wrap_u64]
  have := word_lt (upd T id false) (id / 64)
  omega

end Go.Proofs.YtdghlblgmihbpaaDoor
