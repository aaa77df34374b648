import Derived.Test.YtnaedmmfiiebaaaGreatDoorProg
import Derived.WalkKit
import Derived.WalkSpells
import Derived.WalkLawsBesides
import Derived.Deep.AppendLies
import Derived.BigQuiet
import Derived.KernelRfl
import Derived.Laws.IdiomStrings
namespace Go.Proofs.YtnaedmmfiiebaaaGreatDoor
open Go.RowKit

def u8s (l : List UInt8) : List Value := l.map (fun c => Value.int .u8 (c.toNat : Int))
theorem u8s_length (l : List UInt8) : (u8s l).length = l.length := by simp [u8s]
theorem u8s_append (a b : List UInt8) : u8s (a ++ b) = u8s a ++ u8s b := by simp [u8s]
theorem u8s_get (l : List UInt8) (j : Nat) (h : j < l.length) : (u8s l)[j]? = some (.int .u8 (l[j].toNat : Int)) := by simp [u8s, h]
theorem u8s_one (l : List UInt8) : ∀ u ∈ u8s l, u.oneCell' = true := by
  intro u hu
  simp only [u8s, List.mem_map] at hu
  obtain ⟨c, _, rfl⟩ := hu
  rfl
theorem bsize (s : ByteArray) : s.data.toList.length = s.size := by simp
theorem Tryz.info5 : (Tryz.prog.info? 5).map (fun i => (i.zero, i.size, i.bytes)) = some (some (.int .u8 0), 1, 1) := by kernel_rfl


end Go.Proofs.YtnaedmmfiiebaaaGreatDoor

namespace Go.Proofs.YtnaedmmfiiebaaaGreatDoor

/-! The body of some cells, as data. -/
def hi8 (e : Nat) : UInt8 := UInt8.ofNat (e / 256)
def lo8 (e : Nat) : UInt8 := UInt8.ofNat (e % 256)
/-- The slot of a cell in a body. -/
def slotN (b : List UInt8) (i : Nat) : Nat := (b.getD (2 * i) 0).toNat * 256 + (b.getD (2 * i + 1) 0).toNat
def endB (b : List UInt8) (n : Nat) : Nat → Nat
  | 0 => 2 * n
  | i + 1 => slotN b i
/-- The body of n cells. -/
def OkR (b : List UInt8) (n : Nat) : Prop := (n ≤ 2036 ∧ b.length = 4072) ∧ (∀ i, i < n → endB b n i ≤ endB b n (i + 1) ∧ endB b n (i + 1) ≤ 4072) ∧ ∀ j, endB b n n ≤ j → j < 4072 → b.getD j 0 = 0
def cellB (b : List UInt8) (n i : Nat) : List UInt8 := (b.drop (endB b n i)).take (endB b n (i + 1) - endB b n i)
def cellsB (b : List UInt8) (n : Nat) : List ByteArray := (List.range n).map fun i => ⟨(cellB b n i).toArray⟩
theorem cellsB_len (b : List UInt8) (n : Nat) : (cellsB b n).length = n := by simp [cellsB]
theorem cellsB_get (b : List UInt8) (n i : Nat) (h : i < (cellsB b n).length) : (cellsB b n)[i].data.toList = cellB b n i := by simp [cellsB]

theorem endB_le {b : List UInt8} {n : Nat} (h : OkR b n) : ∀ i, i ≤ n → endB b n i ≤ 4072
  | 0, _ => by have := h.1.1; simp only [endB]; omega
  | i + 1, hi => (h.2.1 i (by omega)).2
theorem cellB_len {b : List UInt8} {n : Nat} (h : OkR b n) (i : Nat) (hi : i < n) : (cellB b n i).length = endB b n (i + 1) - endB b n i := by
  have h1 := endB_le h (i + 1) (by omega)
  unfold cellB
  rw [List.length_take, List.length_drop, h.1.2]; omega
end Go.Proofs.YtnaedmmfiiebaaaGreatDoor

namespace Go.Proofs.YtnaedmmfiiebaaaGreatDoor

/-! Pairs, as data. -/
abbrev Pr := ByteArray × ByteArray
def szP (p : Pr) : Nat := 5 + p.1.size + p.2.size
def szL (l : List Pr) : Nat := (l.map szP).sum
def mayP (p : Pr) : Bool := decide (1 ≤ p.1.size ∧ p.1.size ≤ 255 ∧ p.2.size ≤ 700)
theorem may_parts' {p : Pr} (h : mayP p = true) : 1 ≤ p.1.size ∧ p.1.size ≤ 255 ∧ p.2.size ≤ 700 := by simpa [mayP] using h
def ltK (a b : ByteArray) : Bool := Op.bytesLess a.toList b.toList
/-- Each key is below the next one. -/
def Rise (l : List Pr) : Prop := ∀ i (h : i + 1 < l.length), ltK l[i].1 l[i + 1].1 = true

theorem szL_cons (p : Pr) (l : List Pr) : szL (p :: l) = szP p + szL l := by simp [szL]
theorem szL_append (a b : List Pr) : szL (a ++ b) = szL a + szL b := by simp [szL]
theorem szL_take_succ (l : List Pr) (k : Nat) (h : k < l.length) : szL (l.take (k + 1)) = szL (l.take k) + szP l[k] := by
  rw [List.take_succ_eq_append_getElem h, szL_append]; simp [szL]
theorem szL_len (l : List Pr) : 5 * l.length ≤ szL l := by
  induction l with
  | nil => simp
  | cons p l ih => rw [szL_cons, List.length_cons]; unfold szP; omega

theorem bless_irrefl (x : List UInt8) : Op.bytesLess x x = false := by
  induction x with
  | nil => rfl
  | cons a x ih => simp [Op.bytesLess, ih]
theorem bless_trans : ∀ (x y z : List UInt8), Op.bytesLess x y = true → Op.bytesLess y z = true → Op.bytesLess x z = true
  | _, [], _, h, _ => by simp [Op.bytesLess] at h
  | _, _ :: _, [], _, h => by simp [Op.bytesLess] at h
  | [], _ :: _, _ :: _, _, _ => by simp [Op.bytesLess]
  | a :: x, b :: y, c :: z, h1, h2 => by
    simp only [Op.bytesLess, Bool.or_eq_true, decide_eq_true_eq, Bool.and_eq_true, beq_iff_eq] at *
    rcases h1 with h1 | ⟨rfl, h1⟩
    · rcases h2 with h2 | ⟨rfl, h2⟩
      · exact .inl (UInt8.lt_trans h1 h2)
      · exact .inl h1
    · rcases h2 with h2 | ⟨rfl, h2⟩
      · exact .inl h2
      · exact .inr ⟨rfl, bless_trans x y z h1 h2⟩
theorem bless_total : ∀ (x y : List UInt8), Op.bytesLess x y = false → Op.bytesLess y x = false → x = y
  | [], [], _, _ => rfl
  | [], _ :: _, h, _ => by simp [Op.bytesLess] at h
  | _ :: _, [], _, h => by simp [Op.bytesLess] at h
  | a :: x, b :: y, h1, h2 => by
    simp only [Op.bytesLess, Bool.or_eq_false_iff, decide_eq_false_iff_not, Bool.and_eq_false_imp, beq_iff_eq] at *
    have hab : a = b := by
      have := UInt8.not_lt.1 h1.1
      have := UInt8.not_lt.1 h2.1
      exact UInt8.le_antisymm ‹_› ‹_›
    subst hab
    rw [bless_total x y (h1.2 rfl) (h2.2 rfl)]
theorem ltK_irrefl (a : ByteArray) : ltK a a = false := bless_irrefl _
theorem ltK_trans {a b c : ByteArray} (h1 : ltK a b = true) (h2 : ltK b c = true) : ltK a c = true := bless_trans _ _ _ h1 h2
theorem ba_ext' {x y : ByteArray} (h : x.data.toList = y.data.toList) : x = y := by
  have : x.data = y.data := Array.toList_inj.1 h
  exact congrArg ByteArray.mk this
theorem ltK_total {a b : ByteArray} (h1 : ltK a b = false) (h2 : ltK b a = false) : a = b := by
  have := bless_total _ _ h1 h2
  rw [ByteArray.toList_eq, ByteArray.toList_eq] at this
  exact ba_ext' this
theorem Rise.lt {l : List Pr} (h : Rise l) (i : Nat) : ∀ j (hj : j < l.length) (hij : i < j), ltK (l[i]'(by omega)).1 l[j].1 = true := by
  intro j
  induction j with
  | zero => intro _ h; omega
  | succ j ih =>
    intro hj hij
    by_cases he : i = j
    · subst he; exact h i hj
    · exact ltK_trans (ih (by omega) (by omega)) (h j hj)
theorem rise_nil : Rise [] := fun i h => by simp at h
theorem Rise.take {l : List Pr} (h : Rise l) (k : Nat) : Rise (l.take k) := fun i hi => by
  rw [List.length_take] at hi
  simp only [List.getElem_take]
  exact h i (by omega)
theorem Rise.drop {l : List Pr} (h : Rise l) (k : Nat) : Rise (l.drop k) := fun i hi => by
  rw [List.length_drop] at hi
  simp only [List.getElem_drop]
  exact h (k + i) (by omega)
theorem rise_snoc {l : List Pr} (p : Pr) : Rise (l ++ [p]) ↔ Rise l ∧ ∀ (h : 0 < l.length), ltK (l[l.length - 1]'(by omega)).1 p.1 = true := by
  constructor
  · intro h
    refine ⟨fun i hi => ?_, fun h0 => ?_⟩
    · have := h i (by simp; omega)
      rwa [List.getElem_append_left (by omega), List.getElem_append_left (by omega)] at this
    · have := h (l.length - 1) (by simp; omega)
      rw [List.getElem_append_left (by omega)] at this
      have e : (l ++ [p])[l.length - 1 + 1]'(by simp; omega) = p := by
        simp only [show l.length - 1 + 1 = l.length by omega]; simp
      rwa [e] at this
  · rintro ⟨h1, h2⟩ i hi
    simp only [List.length_append, List.length_singleton] at hi
    by_cases he : i + 1 < l.length
    · rw [List.getElem_append_left (by omega), List.getElem_append_left (by omega)]
      exact h1 i he
    · have e : i = l.length - 1 := by omega
      have h0 : 0 < l.length := by omega
      rw [List.getElem_append_left (by omega)]
      have e2 : (l ++ [p])[i + 1]'(by simp; omega) = p := by
        simp only [show i + 1 = l.length by omega]; simp
      rw [e2]
      simp only [e]
      exact h2 h0
instance (l : List Pr) : Decidable (Rise l) := decidable_of_iff (∀ i : Fin l.length, ∀ h : i.1 + 1 < l.length, ltK l[i.1].1 l[i.1 + 1].1 = true) ⟨fun h i hi => h ⟨i, by omega⟩ hi, fun h i hi => h i.1 hi⟩

/-- Which refusal Check answers: the sentinel's place in the list, and none. -/
def chk (l : List Pr) (root : Bool) : Option Nat :=
  if l.all mayP = false then some 0
  else if ¬ Rise l then some 11
  else if 4072 < szL l then some 2
  else if l = [] ∨ root = false ∧ szL l < 1556 then some 3
  else none
theorem chk_none {l : List Pr} {root : Bool} (h : chk l root = none) : (∀ p ∈ l, mayP p = true) ∧ Rise l ∧ szL l ≤ 4072 ∧ l ≠ [] ∧ (root = false → 1556 ≤ szL l) := by
  unfold chk at h
  split at h
  · cases h
  · rename_i h1
    split at h
    · cases h
    · rename_i h2
      split at h
      · cases h
      · rename_i h3
        split at h
        · cases h
        · rename_i h4
          refine ⟨fun p hp => ?_, Classical.not_not.1 h2, by omega, fun e => h4 (.inl e), fun hr => ?_⟩
          · have : l.all mayP = true := by cases h : l.all mayP <;> simp_all
            exact List.all_eq_true.1 this p hp
          · rcases Nat.lt_or_ge (szL l) 1556 with h' | h'
            · exact absurd (.inr ⟨hr, h'⟩) h4
            · exact h'
/-- The place of the first pair whose key is at or above. -/
def findN (l : List Pr) (key : ByteArray) : Nat := l.findIdx (fun p => !ltK p.1 key)
def foundB (l : List Pr) (key : ByteArray) : Bool := match l[findN l key]? with | some p => decide (p.1 = key) | none => false
def behindN (l : List Pr) (key : ByteArray) : Nat := if foundB l key then findN l key + 1 else findN l key
def setL (l : List Pr) (key value : ByteArray) : List Pr := l.take (findN l key) ++ (key, value) :: l.drop (behindN l key)
def dropL (l : List Pr) (key : ByteArray) : List Pr := l.take (findN l key) ++ l.drop (behindN l key)
theorem findN_le (l : List Pr) (key : ByteArray) : findN l key ≤ l.length := List.findIdx_le_length
theorem findN_below (l : List Pr) (key : ByteArray) (j : Nat) (h : j < findN l key) (hj : j < l.length) : ltK l[j].1 key = true := by
  have := List.not_of_lt_findIdx h
  simpa using this
theorem findN_at (l : List Pr) (key : ByteArray) (h : findN l key < l.length) : ltK l[findN l key].1 key = false := by
  have := List.findIdx_getElem (xs := l) (p := fun q : Pr => !ltK q.1 key) (w := h)
  simp only [Bool.not_eq_true'] at this
  exact this
theorem findN_eq {l : List Pr} {key : ByteArray} {k : Nat} (hk : k < l.length) (h1 : ∀ j (hj : j < k), ltK (l[j]'(by omega)).1 key = true) (h2 : ltK l[k].1 key = false) : findN l key = k := by
  rcases Nat.lt_trichotomy (findN l key) k with h | h | h
  · have := findN_at l key (by omega)
    rw [h1 _ h] at this; cases this
  · exact h
  · have := findN_below l key k h hk
    rw [h2] at this; cases this
theorem findN_none {l : List Pr} {key : ByteArray} (h1 : ∀ j (hj : j < l.length), ltK l[j].1 key = true) : findN l key = l.length := by
  rcases Nat.lt_or_ge (findN l key) l.length with h | h
  · have := findN_at l key h
    rw [h1 _ h] at this; cases this
  · have := findN_le l key; omega
theorem foundB_at {l : List Pr} {key : ByteArray} (h : findN l key < l.length) : foundB l key = decide (l[findN l key].1 = key) := by
  unfold foundB; rw [List.getElem?_eq_getElem h]
theorem foundB_none {l : List Pr} {key : ByteArray} (h : ¬ findN l key < l.length) : foundB l key = false := by
  unfold foundB; rw [List.getElem?_eq_none (by omega)]
theorem foundB_lt {l : List Pr} {key : ByteArray} (h : foundB l key = true) : findN l key < l.length := by
  rcases Nat.lt_or_ge (findN l key) l.length with h' | h'
  · exact h'
  · rw [foundB_none (by omega)] at h; cases h
theorem behindN_le (l : List Pr) (key : ByteArray) : behindN l key ≤ l.length := by
  unfold behindN
  split
  · rename_i h; exact foundB_lt h
  · exact findN_le _ _
theorem behindN_ge (l : List Pr) (key : ByteArray) : findN l key ≤ behindN l key := by
  unfold behindN; split <;> omega

end Go.Proofs.YtnaedmmfiiebaaaGreatDoor

namespace Go.Proofs.YtnaedmmfiiebaaaGreatDoor
open Go.RowKit

/-- A block of the call's own that holds a struct's cells. -/
def Boxed (b : Nat) (cs : List Value) (w : World) : Prop := b < w.heap.size ∧ ∀ j (h : j < cs.length), w.cell? ⟨b, j, none⟩ = some cs[j]
theorem Boxed.below {b : Nat} {cs : List Value} {w w' : World} (h : Boxed b cs w) (hb : Below w.heap.size w w') : Boxed b cs w' :=
  ⟨Nat.lt_of_lt_of_le h.1 hb.size, fun j hj => (hb.cell (p := ⟨b, j, none⟩) h.1).trans (h.2 j hj)⟩
theorem boxed_new (w : World) (cs : Array Value) (t : TypeId) : Boxed w.heap.size cs.toList (w.alloc (.cells cs t)) := by
  refine ⟨by simp, fun j hj => ?_⟩
  have h : (w.alloc (.cells cs t)).heap[w.heap.size]? = some (.cells cs t (0, 0)) := heap_alloc_new w _
  rw [cell_of_row _ w.heap.size j cs t (0, 0) h]
  simp only [Array.length_toList] at hj
  simp [hj]
theorem below_new (w : World) (o : Obj) : Below w.heap.size w (w.alloc o) := (Below.refl _ _).alloc (Nat.le_refl _) o
/-- Two steps, each kept below its own beginning. -/
theorem Below.next {a b c : World} (h : Below a.heap.size a b) (k : Below b.heap.size b c) : Below a.heap.size a c := h.trans (k.mono h.size)

end Go.Proofs.YtnaedmmfiiebaaaGreatDoor

namespace Go.Proofs.YtnaedmmfiiebaaaGreatDoor
open Go.RowKit

theorem ret_int {k : IntKind} {a b : Int} (h : a = b) : Ending.returned (.int k a) = .returned (.int k b) := by rw [h]
theorem below_drewN' {B : Nat} {a w : World} (h : Below B a w) (n : Nat) : Below B a (w.drewN n) := ⟨h.os, h.tape, h.output, h.size, h.block⟩

end Go.Proofs.YtnaedmmfiiebaaaGreatDoor

namespace Go.Proofs.YtnaedmmfiiebaaaGreatDoor
open Go.RowKit

theorem hide {p : Prop} (h : p) : Hid p := h

end Go.Proofs.YtnaedmmfiiebaaaGreatDoor

namespace Go.Proofs.YtnaedmmfiiebaaaGreatDoor
open Go.RowKit

/-- The slice value v reads as the values us, one cell each. -/
def RowR (w : World) (v : Value) (us : List Value) : Prop := ∃ a cap, v = .slice a us.length cap ∧ us.length ≤ cap ∧ (a = none → cap = 0) ∧ ∀ j u, us[j]? = some u → ∃ g o, a = some ⟨g, o, none⟩ ∧ w.cell? ⟨g, o + j, none⟩ = some u
theorem RowR.below {w w' : World} {v : Value} {us : List Value} (h : RowR w v us) (hb : Below w.heap.size w w') : RowR w' v us := by
  obtain ⟨a, cap, rfl, hle, hn, hc⟩ := h
  refine ⟨a, cap, rfl, hle, hn, fun j u hj => ?_⟩
  obtain ⟨g, o, ha, hcell⟩ := hc j u hj
  exact ⟨g, o, ha, (hb.cell (p := ⟨g, o + j, none⟩) (World.block_lt_of_cell? w _ hcell)).trans hcell⟩
theorem rowR_of_owns {w : World} {base e n : Nat} {v : Value} {us : List Value} (h : w.ownsRow base e 1 v n us) : RowR w v us := by
  have hl := h.1
  rw [Nat.mul_one] at hl
  rcases h.2 with ⟨rfl, hn⟩ | ⟨g, cap, cur, rfl, hb, hg, hnc, hcm, hcs, htk⟩
  · have h0 : us.length = 0 := by omega
    exact ⟨none, 0, by rw [h0], by omega, fun _ => rfl, fun j u hj => by rw [List.length_eq_zero_iff.1 h0] at hj; simp at hj⟩
  · refine ⟨some ⟨g, 0, none⟩, cap, by rw [hl], by omega, fun h => (by cases h), fun j u hj => ⟨g, 0, rfl, ?_⟩⟩
    have hj' := (List.getElem?_eq_some_iff.1 hj).1
    rw [Nat.zero_add, h.cellAt j (by omega)]; exact hj
theorem RowR.take {w : World} {a : Option Addr} {n m cap : Nat} {us : List Value} (h : RowR w (.slice a n cap) us) (hm : m ≤ n) : RowR w (.slice a m cap) (us.take m) := by
  obtain ⟨a', cap', he, hle, hn, hc⟩ := h
  cases he
  refine ⟨a, cap, by rw [List.length_take, Nat.min_eq_left hm], by rw [List.length_take]; omega, hn, fun j u hj => hc j u ?_⟩
  rw [List.getElem?_take] at hj
  split at hj
  · exact hj
  · cases hj
theorem add_plain' (b o c : Nat) : (⟨b, o, none⟩ : Addr).add c = ⟨b, o + c, none⟩ := by
  unfold Addr.add
  split
  · rename_i h; rw [h, Nat.add_zero]
  · rfl

/-- append(v, s...). -/
theorem append_row (t e : TypeId) (z : Value) (bytes : Nat) (hinfo : (Tryz.prog.info? e).map (fun i => (i.zero, i.size, i.bytes)) = some (some z, 1, bytes)) (ht : Tryz.prog.underlying t = some (.slice e)) (hz1 : z.cells.size = 1) (base n : Nat) (v : Value) (xs : List Value) (w : World) (hown : w.ownsRow base e 1 v n xs)
    (s : Value) (us : List Value) (hs : RowR w s us) (h1 : ∀ u ∈ us, u.oneCell' = true) (hb : (n + us.length) * bytes ≤ 140737488355328) (hb1 : 1 ≤ bytes) (hbase : base ≤ w.heap.size) :
    ∃ a' cap' w', (Builtin.append_ #[t, t] t #[v, s]).run Tryz.prog w = .ok (.slice a' (n + us.length) cap') w' ∧ w'.ownsRow base e 1 (.slice a' (n + us.length) cap') (n + us.length) (xs ++ us) ∧ w.grownBy w' v.ownBlock := by
  obtain ⟨i0, hi, hz, hsz, hby⟩ := info_parts hinfo
  obtain ⟨a, cap, rfl, hle, hnil, hc⟩ := hs
  cases a with
  | none =>
    have h0 : us = [] := by
      cases us with
      | nil => rfl
      | cons u r => obtain ⟨g, o, he, _⟩ := hc 0 u rfl; cases he
    subst h0
    rw [hnil rfl]
    have hr := run_append_owned_none (P := Tryz.prog) w base t t e i0 1 ht hi v n xs hown
    have hf : ∃ a' c', v = .slice a' n c' := by
      rcases hown.2 with ⟨rfl, rfl⟩ | ⟨g, cap, cur, rfl, _⟩
      · exact ⟨_, _, rfl⟩
      · exact ⟨_, _, rfl⟩
    obtain ⟨a', c', rfl⟩ := hf
    exact ⟨a', c', w, hr, by rw [List.append_nil]; exact hown, ⟨rfl, rfl, rfl, Nat.le_refl _, fun _ _ _ => rfl⟩⟩
  | some ad =>
    have hB : (n + us.length) * 1 ≤ (n + us.length) * bytes := Nat.mul_le_mul_left _ hb1
    obtain ⟨v', w', hr, hown', hgr, _⟩ := run_append_own (P := Tryz.prog) w base t t e i0 z 1 bytes ht hi hz hsz hby hz1 (by decide) v n xs hown ad us.length cap us (by rw [Nat.mul_one]) (fun j u hj => by
      obtain ⟨g, o, he, hcell⟩ := hc j u hj
      cases he
      rw [add_plain']; exact hcell) h1 (by unfold maxLen; omega) hb hbase
    have hf : ∃ a' c', v' = .slice a' (n + us.length) c' := by
      rcases hown'.2 with ⟨rfl, h0⟩ | ⟨g, cap, cur, rfl, _⟩
      · exact ⟨none, 0, by rw [h0]⟩
      · exact ⟨_, _, rfl⟩
    obtain ⟨a', c', rfl⟩ := hf
    exact ⟨a', c', w', hr, hown', hgr⟩

theorem wpList_append_run {ops : Array Oper} {rest : List Oper} {o : Oper} {a : Act} {w : World} {Q : Exit → Act → World → Prop} (t : TypeId) (hgd : o.guard = none) (d x : Operand)
    (ho : o.op = .call { callee := .builtin .append, args := #[d, x], argTypes := #[t, t] }) (hty : o.type = t) (vd vx : Value) (hd : a.eval d = vd) (hx : a.eval x = vx) (v : Value) (w' : World)
    (hrun : (Builtin.append_ #[t, t] t #[vd, vx]).run Tryz.prog w = .ok v w') (h : wpList Tryz.prog ops Q rest (a.put o.dst v) w') : wpList Tryz.prog ops Q (o :: rest) a w :=
  wpList_plain hgd fun _ hK => by
    unfold Oper.wp
    simp [execOp, ho, resolve, invoke, builtin, hd, hx, hty, hrun, Result.andThen]
    exact hK _ _ h

def ints (l : List Int) : List Value := l.map (Value.int .i64)
theorem ints_length (l : List Int) : (ints l).length = l.length := by simp [ints]
theorem ints_get (l : List Int) (j : Nat) (h : j < l.length) : (ints l)[j]? = some (.int .i64 l[j]) := by simp [ints, h]
theorem ints_append (a b : List Int) : ints (a ++ b) = ints a ++ ints b := by simp [ints]
theorem info3 : (Tryz.prog.info? 3).map (fun i => (i.zero, i.size, i.bytes)) = some (some (.int .i64 0), 1, 8) := by kernel_rfl

end Go.Proofs.YtnaedmmfiiebaaaGreatDoor

namespace Go.Proofs.YtnaedmmfiiebaaaGreatDoor
open Go.RowKit

/-- The cells of pairs. -/
def prs (l : List Pr) : List Value := l.flatMap fun p => [.string p.1, .string p.2]
theorem prs_cons (p : Pr) (l : List Pr) : prs (p :: l) = .string p.1 :: .string p.2 :: prs l := by simp [prs]
theorem prs_append (a b : List Pr) : prs (a ++ b) = prs a ++ prs b := by simp [prs]
theorem prs_length (l : List Pr) : (prs l).length = l.length * 2 := by
  induction l with
  | nil => rfl
  | cons p l ih => rw [prs_cons]; simp [ih]; omega
theorem prs_get (l : List Pr) : ∀ j (h : j < l.length), (prs l)[j * 2]? = some (.string l[j].1) ∧ (prs l)[j * 2 + 1]? = some (.string l[j].2) := by
  induction l with
  | nil => intro j h; simp at h
  | cons p l ih =>
    intro j h
    rw [prs_cons]
    cases j with
    | zero => exact ⟨rfl, rfl⟩
    | succ j =>
      have := ih j (by simpa using h)
      rw [show (j + 1) * 2 = j * 2 + 1 + 1 by omega]
      simpa using this
theorem prs_one (l : List Pr) : ∀ u ∈ prs l, u.oneCell' = true := by
  intro u hu
  simp only [prs, List.mem_flatMap] at hu
  obtain ⟨p, _, h⟩ := hu
  simp at h
  rcases h with rfl | rfl <;> rfl
theorem infoP : (Tryz.prog.info? 52).map (fun i => (i.zero, i.size, i.bytes)) = some (some (.agg #[.string ByteArray.empty, .string ByteArray.empty]), 2, 32) := by kernel_rfl

/-- The texts of pairs are such as a machine's can be. -/
def OkL (l : List Pr) : Prop := ∀ p ∈ l, p.1.size ≤ 140737488355328 ∧ p.2.size ≤ 140737488355328
/-- The slice value v reads as the pairs l. -/
def PrR (w : World) (v : Value) (l : List Pr) : Prop := ∃ a cap, v = .slice a l.length cap ∧ l.length ≤ cap ∧ (a = none → cap = 0) ∧
  ∀ j (h : j < l.length), ∃ g o, a = some ⟨g, o, none⟩ ∧ w.cell? ⟨g, o + j * 2, none⟩ = some (.string l[j].1) ∧ w.cell? ⟨g, o + j * 2 + 1, none⟩ = some (.string l[j].2)
theorem PrR.below {w w' : World} {v : Value} {l : List Pr} (h : PrR w v l) (hb : Below w.heap.size w w') : PrR w' v l := by
  obtain ⟨a, cap, rfl, hle, hn, hc⟩ := h
  refine ⟨a, cap, rfl, hle, hn, fun j hj => ?_⟩
  obtain ⟨g, o, ha, h1, h2⟩ := hc j hj
  exact ⟨g, o, ha, (hb.cell (p := ⟨g, o + j * 2, none⟩) (World.block_lt_of_cell? w _ h1)).trans h1, (hb.cell (p := ⟨g, o + j * 2 + 1, none⟩) (World.block_lt_of_cell? w _ h2)).trans h2⟩
theorem PrR.form {w : World} {v : Value} {l : List Pr} (h : PrR w v l) : ∃ a c, v = .slice a l.length c := by
  obtain ⟨a, c, rfl, _⟩ := h; exact ⟨a, c, rfl⟩
theorem PrR.of_owns {w : World} {base n : Nat} {v : Value} {l : List Pr} (h : w.ownsRow base 52 2 v n (prs l)) : PrR w v l := by
  have hl := h.1
  rw [prs_length] at hl
  have hl : l.length = n := by omega
  rcases h.2 with ⟨rfl, hn⟩ | ⟨g, cap, cur, rfl, hb, hg, hnc, hcm, hcs, htk⟩
  · have h0 : l.length = 0 := by omega
    exact ⟨none, 0, by rw [h0], by omega, fun _ => rfl, fun j hj => by omega⟩
  · refine ⟨some ⟨g, 0, none⟩, cap, by rw [hl], by omega, fun h => (by cases h), fun j hj => ⟨g, 0, rfl, ?_, ?_⟩⟩
    · rw [Nat.zero_add, h.cellAt (j * 2) (by omega)]; exact (prs_get l j hj).1
    · rw [Nat.zero_add, h.cellAt (j * 2 + 1) (by omega)]; exact (prs_get l j hj).2
theorem PrR.take {w : World} {a : Option Addr} {n m cap : Nat} {l : List Pr} (h : PrR w (.slice a n cap) l) (hm : m ≤ n) : PrR w (.slice a m cap) (l.take m) := by
  obtain ⟨a', cap', he, hle, hn, hc⟩ := h
  cases he
  refine ⟨a, cap, by rw [List.length_take, Nat.min_eq_left hm], by rw [List.length_take]; omega, hn, fun j hj => ?_⟩
  rw [List.length_take] at hj
  obtain ⟨g, o, ha, h1, h2⟩ := hc j (by omega)
  exact ⟨g, o, ha, by rw [List.getElem_take]; exact h1, by rw [List.getElem_take]; exact h2⟩
theorem PrR.nil (w : World) : PrR w (.slice none 0 0) [] := ⟨none, 0, rfl, Nat.le_refl _, fun _ => rfl, fun j h => by simp at h⟩

end Go.Proofs.YtnaedmmfiiebaaaGreatDoor

namespace Go.Proofs.YtnaedmmfiiebaaaGreatDoor
open Go.RowKit

/-- What a machine's word keeps of a size. -/
def wsz (n : Nat) : Int := IntKind.i64.wrap (n : Int)
theorem wsz_add (a b : Nat) : IntKind.i64.wrap (wsz a + (b : Int)) = wsz (a + b) := by
  unfold wsz; rw [IntKind.wrap_i64, IntKind.wrap_i64, IntKind.wrap_i64]; omega
theorem wsz_small {n : Nat} (h : n ≤ 4611686018427387904) : wsz n = (n : Int) := by
  unfold wsz; rw [IntKind.wrap_i64]; omega



set_option maxHeartbeats 400000 in
theorem lsizeOf_any (p : Pr) (w : World) (h1 : p.1.size ≤ 140737488355328) (h2 : p.2.size ≤ 140737488355328) :
    Calls Tryz.prog 201 #[.agg #[.string p.1, .string p.2]] w fun e w' => e = .returned (.int .i64 (szP p : Int)) ∧ Below w.heap.size w w' := by
  have hbn := below_new w (.cells #[.string p.1, .string p.2] 52)
  have hw1 : IntKind.i64.wrap (5 + (p.1.size : Int)) = 5 + (p.1.size : Int) := by rw [IntKind.wrap_i64]; omega
  have hw2 : IntKind.i64.wrap (5 + (p.1.size : Int) + (p.2.size : Int)) = (szP p : Int) := by rw [IntKind.wrap_i64]; unfold szP; omega
  go_enter Tryz.func201, Tryz.ntmps201
  go_wp2
  go_ret
  exact ⟨rfl, hbn⟩

set_option maxHeartbeats 1000000 in
theorem lsize_any (v : Value) (l : List Pr) (w : World) (hok : OkL l) (hm : l.length ≤ 140737488355328) (hr : PrR w v l) :
    Calls Tryz.prog 161 #[v] w fun e w' => e = .returned (.int .i64 (wsz (szL l))) ∧ Below w.heap.size w w' := by
  obtain ⟨a, cap, rfl, hcap, _, hc⟩ := hr
  have HC := hide hc
  obtain ⟨n, hn⟩ : ∃ n, n = l.length := ⟨_, rfl⟩
  rw [← hn] at hm ⊢
  have HN := hide hn
  have HOK := hide hok
  clear hc hn hcap hok
  go_enter Tryz.func161, Tryz.ntmps161
  go_wp2
  go_loopw [3, 8] (fun r i wr => ∃ k : Nat, k ≤ n ∧ i = .int .i64 k ∧ r = .int .i64 (wsz (szL (l.take k))) ∧ Below w.heap.size w wr) (fun _ i _ => n - (intOf i).toNat)
  case atStart => exact ⟨0, Nat.zero_le _, rfl, rfl, Below.refl _ _⟩
  case round =>
    obtain ⟨k, hk, rfl, rfl, hbw⟩ := hrel
    by_cases hlt : k < n
    · have hkl : k < l.length := by have := HN.out; omega
      obtain ⟨g, o, rfl, f1, f2⟩ := HC.out k hkl
      have c1 : wr.cell? ⟨g, o + k * 2, none⟩ = some (.string l[k].1) := (hbw.cell (p := ⟨g, o + k * 2, none⟩) (World.block_lt_of_cell? w _ f1)).trans f1
      have c2 : wr.cell? ⟨g, o + k * 2 + 1, none⟩ = some (.string l[k].2) := (hbw.cell (p := ⟨g, o + k * 2 + 1, none⟩) (World.block_lt_of_cell? w _ f2)).trans f2
      have hp0 := HOK.out l[k] (List.getElem_mem _)
      have hws : IntKind.i64.wrap (wsz (szL (l.take k)) + (szP l[k] : Int)) = wsz (szL (l.take (k + 1))) := by rw [wsz_add, ← szL_take_succ l k hkl]
      obtain ⟨p, hp⟩ : ∃ p, p = l[k] := ⟨_, rfl⟩
      rw [← hp] at c1 c2 hws hp0
      have HZ := hide (fun W => lsizeOf_any p W hp0.1 hp0.2)
      obtain ⟨x, hx⟩ : ∃ x, x = wsz (szL (l.take k)) := ⟨_, rfl⟩
      obtain ⟨y, hy⟩ : ∃ y, y = wsz (szL (l.take (k + 1))) := ⟨_, rfl⟩
      obtain ⟨z, hz⟩ : ∃ z, z = szP p := ⟨_, rfl⟩
      rw [← hx, ← hy, ← hz] at hws
      rw [← hx]
      rw [← hz] at HZ
      have HY := hide hy
      have hltI : (k : Int) < (n : Int) := by omega
      have HB := hide (Below.next hbw (below_new wr (.cells #[.string p.1, .string p.2] 52)))
      clear hp hx hy hz HC f1 f2 hbw hp0
      go_wp2_with fail
      refine (HZ.out _).mono ?_
      rintro e w1 ⟨rfl, hb1⟩
      have HB1 := hide (Below.next HB.out hb1)
      clear hb1 HB HZ c1 c2
      go_wp2
      go_roundw
      case rel => exact ⟨k + 1, by omega, by go_num, by rw [← HY.out], HB1.out⟩
      case measure => simp [intOf]; omega
    · have hall : l.take k = l := by rw [List.take_of_length_le]; have := HN.out; omega
      rw [hall]
      have HB := hide hbw
      have hltI : ¬ (k : Int) < (n : Int) := by omega
      obtain ⟨x, hx⟩ : ∃ x, x = wsz (szL l) := ⟨_, rfl⟩
      rw [← hx]
      have HX := hide hx
      clear HC hbw hall hx
      go_wp2
      go_ret
      exact ⟨by rw [← HX.out]; rfl, HB.out⟩

end Go.Proofs.YtnaedmmfiiebaaaGreatDoor

namespace Go.Proofs.YtnaedmmfiiebaaaGreatDoor.B

/-! Links and branches, as data. -/
abbrev Lk := ByteArray × Int
def szK (p : Lk) : Nat := 7 + p.1.size
def szB (l : List Lk) : Nat := 6 + (l.map szK).sum
def childB (n : Int) : Bool := decide (2 ≤ n ∧ n < 1048576)
def mayK (p : Lk) : Bool := decide (1 ≤ p.1.size ∧ p.1.size ≤ 255 ∧ 2 ≤ p.2 ∧ p.2 < 1048576)
theorem mayK_parts {p : Lk} (h : mayK p = true) : 1 ≤ p.1.size ∧ p.1.size ≤ 255 ∧ 2 ≤ p.2 ∧ p.2 < 1048576 := by simpa [mayK] using h
/-- Each key is below the next one. -/
def RiseK (l : List Lk) : Prop := ∀ i (h : i + 1 < l.length), ltK l[i].1 l[i + 1].1 = true
instance (l : List Lk) : Decidable (RiseK l) := decidable_of_iff (∀ i : Fin l.length, ∀ h : i.1 + 1 < l.length, ltK l[i.1].1 l[i.1 + 1].1 = true) ⟨fun h i hi => h ⟨i, by omega⟩ hi, fun h i hi => h i.1 hi⟩
def kids (f : Int) (l : List Lk) : List Int := f :: l.map (·.2)
theorem kids_len (f : Int) (l : List Lk) : (kids f l).length = l.length + 1 := by simp [kids]

theorem szB_nil : szB [] = 6 := rfl
theorem szB_append (a b : List Lk) : szB (a ++ b) + 6 = szB a + szB b := by simp [szB]; omega
theorem szB_cons (p : Lk) (l : List Lk) : szB (p :: l) = szK p + szB l := by simp [szB]; omega
theorem szB_take_succ (l : List Lk) (k : Nat) (h : k < l.length) : szB (l.take (k + 1)) = szB (l.take k) + szK l[k] := by
  have e := szB_append (l.take k) [l[k]]
  rw [List.take_succ_eq_append_getElem h]
  have : szB [l[k]] = szK l[k] + 6 := by rw [szB_cons, szB_nil]
  omega
theorem szB_len (l : List Lk) : 7 * l.length + 6 ≤ szB l := by
  induction l with
  | nil => simp [szB]
  | cons p l ih => rw [szB_cons, List.length_cons]; unfold szK; omega
theorem szB_may {l : List Lk} (h : l.all mayK = true) : szB l ≤ 262 * l.length + 6 := by
  induction l with
  | nil => simp [szB]
  | cons p l ih =>
    simp only [List.all_cons, Bool.and_eq_true] at h
    have h1 := mayK_parts h.1
    have h2 := ih h.2
    rw [szB_cons, List.length_cons]; unfold szK; omega

theorem RiseK.lt {l : List Lk} (h : RiseK l) (i : Nat) : ∀ j (hj : j < l.length) (hij : i < j), ltK (l[i]'(by omega)).1 l[j].1 = true := by
  intro j
  induction j with
  | zero => intro _ h; omega
  | succ j ih =>
    intro hj hij
    by_cases he : i = j
    · subst he; exact h i hj
    · exact ltK_trans (ih (by omega) (by omega)) (h j hj)
theorem RiseK.take {l : List Lk} (h : RiseK l) (k : Nat) : RiseK (l.take k) := fun i hi => by
  rw [List.length_take] at hi
  simp only [List.getElem_take]
  exact h i (by omega)
theorem RiseK.drop {l : List Lk} (h : RiseK l) (k : Nat) : RiseK (l.drop k) := fun i hi => by
  rw [List.length_drop] at hi
  simp only [List.getElem_drop]
  exact h (k + i) (by omega)

/-- Which refusal Check answers: the sentinel's place in the list, and none. -/
def chkB (f : Int) (l : List Lk) (root : Bool) : Option Nat :=
  if l = [] then some 3
  else if (childB f && l.all mayK) = false then some 0
  else if ¬ RiseK l then some 11
  else if ¬ (kids f l).Nodup then some 4
  else if 4072 < szB l then some 2
  else if root = false ∧ szB l < 1777 then some 3
  else none
theorem chkB_none {f : Int} {l : List Lk} {root : Bool} (h : chkB f l root = none) : l ≠ [] ∧ childB f = true ∧ (∀ p ∈ l, mayK p = true) ∧ RiseK l ∧ (kids f l).Nodup ∧ szB l ≤ 4072 ∧ (root = false → 1777 ≤ szB l) := by
  unfold chkB at h
  split at h
  · cases h
  · rename_i h0
    split at h
    · cases h
    · rename_i h1
      split at h
      · cases h
      · rename_i h2
        split at h
        · cases h
        · rename_i h3
          split at h
          · cases h
          · rename_i h4
            split at h
            · cases h
            · rename_i h5
              have h1' : childB f = true ∧ l.all mayK = true := by
                cases hc : childB f <;> cases ha : l.all mayK <;> simp_all
              refine ⟨h0, h1'.1, List.all_eq_true.1 h1'.2, Classical.not_not.1 h2, Classical.not_not.1 h3, by omega, fun hr => ?_⟩
              rcases Nat.lt_or_ge (szB l) 1777 with h' | h'
              · exact absurd ⟨hr, h'⟩ h5
              · exact h'
def insL (l : List Lk) (i : Nat) (p : Lk) : List Lk := l.take i ++ p :: l.drop i
def remL (l : List Lk) (i : Nat) : List Lk := l.take i ++ l.drop (i + 1)
def joinL (a : List Lk) (key : ByteArray) (f : Int) (b : List Lk) : List Lk := a ++ (key, f) :: b

end Go.Proofs.YtnaedmmfiiebaaaGreatDoor.B
