import Derived.Test.YtnaedmmfiiebaaaGreatDoorG00
import Derived.Deep.QuietTactic
import Derived.Lib.TrailingZeros
import Derived.Laws.Bits64b
import Derived.Test.YtnaedmmfiiebaaaGreatDoorG07
import Derived.Laws.OwnMore
import Derived.Laws.CopyRow
import Derived.Laws.Tables
namespace Go.Proofs.YtnaedmmfiiebaaaGreatDoor.Q
open Go.RowKit

/-- Of the blocks that were there all but those of F are as they were. -/
structure Only (F : Nat → Prop) (w w' : World) : Prop where
  os : w'.os = w.os
  tape : w'.tape = w.tape
  output : w'.output = w.output
  size : w.heap.size ≤ w'.heap.size
  block : ∀ k, k < w.heap.size → ¬ F k → w'.heap[k]? = w.heap[k]?
theorem Only.refl (F : Nat → Prop) (w : World) : Only F w w := ⟨rfl, rfl, rfl, Nat.le_refl _, fun _ _ _ => rfl⟩
theorem Only.trans {F : Nat → Prop} {a b c : World} (h : Only F a b) (k : Only F b c) : Only F a c :=
  ⟨k.os.trans h.os, k.tape.trans h.tape, k.output.trans h.output, Nat.le_trans h.size k.size, fun i hi hn => (k.block i (Nat.lt_of_lt_of_le hi h.size) hn).trans (h.block i hi hn)⟩
theorem Only.of_below {F : Nat → Prop} {w w' : World} (h : Below w.heap.size w w') : Only F w w' := ⟨h.os, h.tape, h.output, h.size, fun k hk _ => h.block k hk⟩
theorem Only.set {F : Nat → Prop} {g : Nat} (hF : F g) (o : Nat) (w : World) (u : Value) : Only F w (w.setCell ⟨g, o, none⟩ u) :=
  ⟨rfl, rfl, rfl, by simp [World.setCell], fun k _ hn => Below.heap_setCell w ⟨g, o, none⟩ u k (fun e => hn (by rw [e]; exact hF))⟩
theorem Only.cell {F : Nat → Prop} {w w' : World} (h : Only F w w') {a : Addr} {v : Value} (hc : w.cell? a = some v) (hn : ¬ F a.block) : w'.cell? a = some v :=
  (World.cell?_of_block (a := a) (h.block a.block (World.block_lt_of_cell? w a hc) hn)).trans hc
theorem Only.imp {F G : Nat → Prop} {w w' : World} (h : Only F w w') (hf : ∀ k, k < w.heap.size → F k → G k) : Only G w w' := ⟨h.os, h.tape, h.output, h.size, fun k hk hn => h.block k hk (fun h' => hn (hf k hk h'))⟩
/-- Two steps; what is held at the second is held at the first, or was not there. -/
theorem Only.next {F G : Nat → Prop} {a b c : World} (h : Only F a b) (k : Only G b c) (hg : ∀ i, i < a.heap.size → G i → F i) : Only F a c :=
  ⟨k.os.trans h.os, k.tape.trans h.tape, k.output.trans h.output, Nat.le_trans h.size k.size, fun i hi hn => (k.block i (Nat.lt_of_lt_of_le hi h.size) (fun h' => hn (hg i hi h'))).trans (h.block i hi hn)⟩
theorem Only.below {F : Nat → Prop} {w w' : World} {base : Nat} (h : Only F w w') (hF : ∀ k, F k → base ≤ k) (hb : base ≤ w.heap.size) : Below base w w' :=
  ⟨h.os, h.tape, h.output, h.size, fun k hk => h.block k (Nat.lt_of_lt_of_le hk hb) (fun hf => by have := hF k hf; omega)⟩
theorem Only.drew {F : Nat → Prop} {w w' : World} (h : Only F w w') : Only F w w'.drew := ⟨h.os, h.tape, h.output, h.size, h.block⟩
theorem owns_blk {w : World} {base e size n : Nat} {v : Value} {xs : List Value} (h : w.ownsRow base e size v n xs) (k : Nat) (hk : v.ownBlock = some k) : base ≤ k ∧ k < w.heap.size ∧ ∃ cur, w.heap[k]? = some (.cells cur e (0, 0)) := by
  rcases h.2 with ⟨h', _⟩ | ⟨g, cap, cur, h', hb, hg, _⟩
  · rw [h'] at hk; simp [Value.ownBlock] at hk
  · rw [h'] at hk
    simp only [Value.ownBlock, Option.some.injEq] at hk
    subst hk
    exact ⟨hb, (Array.getElem?_eq_some_iff.1 hg).1, cur, hg⟩
theorem owns_block {w w' : World} {b e size n : Nat} {v : Value} {xs : List Value} (ho : w.ownsRow b e size v n xs) (hb : ∀ g, v.ownBlock = some g → w'.heap[g]? = w.heap[g]?) : w'.ownsRow b e size v n xs := by
  refine ⟨ho.1, ?_⟩
  rcases ho.2 with h' | ⟨g, cap, cur, h', h1, hg, hr⟩
  · exact .inl h'
  · exact .inr ⟨g, cap, cur, h', h1, (hb g (by rw [h']; rfl)).trans hg, hr⟩
theorem owns_only {F : Nat → Prop} {w w' : World} {b e size n : Nat} {v : Value} {xs : List Value} (ho : w.ownsRow b e size v n xs) (h : Only F w w') (hn : ∀ g, v.ownBlock = some g → ¬ F g) : w'.ownsRow b e size v n xs :=
  owns_block ho fun g hg => h.block g (owns_blk ho g hg).2.1 (hn g hg)
theorem owns_below {w w' : World} {b e size n : Nat} {v : Value} {xs : List Value} (ho : w.ownsRow b e size v n xs) (h : Below w.heap.size w w') : w'.ownsRow b e size v n xs :=
  owns_block ho fun g hg => h.block g (owns_blk ho g hg).2.1
theorem owns_form {w : World} {base e size n : Nat} {v : Value} {xs : List Value} (h : w.ownsRow base e size v n xs) : ∃ a c, v = .slice a n c ∧ (0 < n → ∃ g, a = some ⟨g, 0, none⟩) := by
  rcases h.2 with ⟨h', h0⟩ | ⟨g, cap, cur, h', _⟩
  · exact ⟨none, 0, by rw [h', h0], fun h => by omega⟩
  · exact ⟨_, cap, h', fun _ => ⟨g, rfl⟩⟩
theorem owns_weak {w : World} {base base' e size n : Nat} {v : Value} {xs : List Value} (h : w.ownsRow base e size v n xs) (hb : base' ≤ base) : w.ownsRow base' e size v n xs := by
  refine ⟨h.1, ?_⟩
  rcases h.2 with h' | ⟨g, cap, cur, h', h1, hr⟩
  · exact .inl h'
  · exact .inr ⟨g, cap, cur, h', by omega, hr⟩

end Go.Proofs.YtnaedmmfiiebaaaGreatDoor.Q

namespace Go.Proofs.YtnaedmmfiiebaaaGreatDoor.Q

/-- The number whose lowest n bits f says. -/
def wd : (Nat → Bool) → Nat → Nat
  | _, 0 => 0
  | f, n + 1 => (if f 0 then 1 else 0) + 2 * wd (fun j => f (j + 1)) n
theorem testBit_wd : ∀ (n : Nat) (f : Nat → Bool) (j : Nat), (wd f n).testBit j = (decide (j < n) && f j)
  | 0, f, j => by simp [wd]
  | n + 1, f, 0 => by
    rw [Nat.testBit_zero, wd]
    cases h : f 0 <;> simp <;> omega
  | n + 1, f, j + 1 => by
    have ih := testBit_wd n (fun j => f (j + 1)) j
    rw [Nat.testBit_succ, wd]
    have e : ((if f 0 = true then 1 else 0) + 2 * wd (fun j => f (j + 1)) n) / 2 = wd (fun j => f (j + 1)) n := by split <;> omega
    rw [e, ih]
    simp
theorem wd_lt : ∀ (n : Nat) (f : Nat → Bool), wd f n < 2 ^ n
  | 0, f => by simp [wd]
  | n + 1, f => by
    have ih := wd_lt n (fun j => f (j + 1))
    rw [wd, Nat.pow_succ]
    split <;> omega
/-- The word i of a map. -/
def word (T : Nat → Bool) (i : Nat) : Nat := wd (fun j => T (64 * i + j)) 64
theorem word_lt (T : Nat → Bool) (i : Nat) : word T i < 18446744073709551616 := wd_lt 64 _
theorem testBit_word (T : Nat → Bool) (i j : Nat) : (word T i).testBit j = (decide (j < 64) && T (64 * i + j)) := testBit_wd 64 _ j
def upd (T : Nat → Bool) (id : Nat) (b : Bool) : Nat → Bool := fun j => if j = id then b else T j
theorem upd_self (T : Nat → Bool) (id : Nat) (b : Bool) : upd T id b id = b := by simp [upd]
theorem upd_ne (T : Nat → Bool) (id j : Nat) (b : Bool) (h : j ≠ id) : upd T id b j = T j := by simp [upd, h]
theorem word_upd_ne (T : Nat → Bool) (id : Nat) (b : Bool) (i : Nat) (h : i ≠ id / 64) : word (upd T id b) i = word T i := by
  apply Nat.eq_of_testBit_eq
  intro j
  rw [testBit_word, testBit_word]
  by_cases hj : j < 64
  · rw [upd_ne _ _ _ _ (by omega)]
  · simp [hj]
theorem two_pow_lt (id : Nat) : 2 ^ (id % 64) < 18446744073709551616 := Nat.pow_lt_pow_right (by decide) (by omega : id % 64 < 64)
theorem word_set (T : Nat → Bool) (id : Nat) : word T (id / 64) ||| 2 ^ (id % 64) = word (upd T id true) (id / 64) := by
  apply Nat.eq_of_testBit_eq
  intro j
  rw [Nat.testBit_or, testBit_word, testBit_word, Nat.testBit_two_pow]
  by_cases hj : j < 64
  · by_cases he : 64 * (id / 64) + j = id
    · rw [he, upd_self]
      have : id % 64 = j := by omega
      simp [hj, this]
    · rw [upd_ne _ _ _ _ he]
      have : ¬ id % 64 = j := by omega
      simp [hj, this]
  · have : ¬ id % 64 = j := by omega
    simp [hj, this]
/-- How many of the first n are true. -/
def tr (f : Nat → Bool) : Nat → Nat
  | 0 => 0
  | n + 1 => tr f n + (if f n then 1 else 0)
/-- How many of the first n are false. -/
def fr (f : Nat → Bool) (n : Nat) : Nat := n - tr f n
end Go.Proofs.YtnaedmmfiiebaaaGreatDoor.Q

namespace Go.Proofs.YtnaedmmfiiebaaaGreatDoor.Q

def g1 (b : Nat) : Nat := ((b / 2) &&& 85) + (b &&& 85)
def g2 (b : Nat) : Nat := ((b / 4) &&& 51) + (b &&& 51)
def g3 (b : Nat) : Nat := b / 16 + b % 16
/-- Every byte of x is two numbers of at most 4. -/
def Nb : Nat → Nat → Prop
  | 0, x => x = 0
  | k + 1, x => x % 256 % 16 ≤ 4 ∧ x % 256 / 16 ≤ 4 ∧ Nb k (x / 256)
theorem Nb.low : ∀ {k x : Nat}, Nb k x → x % 16 ≤ 4
  | 0, x, h => by rw [show x = 0 from h]; decide
  | k + 1, x, h => by have := h.1; omega
theorem d1 : ∀ b : Fin 256, g1 b.val < 256 ∧ g2 (g1 b.val) < 256 ∧ g2 (g1 b.val) % 16 ≤ 4 ∧ g2 (g1 b.val) / 16 ≤ 4 ∧ g3 (g2 (g1 b.val)) = tr b.val.testBit 8 := by decide +kernel
end Go.Proofs.YtnaedmmfiiebaaaGreatDoor.Q

namespace Go.Proofs.YtnaedmmfiiebaaaGreatDoor.Q
open Go.RowKit

def nW (P : Nat) : Nat := (P + 63) / 64
def wcells (T : Nat → Bool) (n : Nat) : List Value := (List.range n).map fun i => .int .u64 (word T i : Int)
theorem wcells_length (T : Nat → Bool) (n : Nat) : (wcells T n).length = n := by simp [wcells]
theorem wcells_get (T : Nat → Bool) (n i : Nat) (h : i < n) : (wcells T n)[i]? = some (.int .u64 (word T i : Int)) := by simp [wcells, h]
theorem wcells_set (T : Nat → Bool) (n id : Nat) (x : Bool) : (wcells T n).set (id / 64) (.int .u64 (word (upd T id x) (id / 64) : Int)) = wcells (upd T id x) n := by
  apply List.ext_getElem?
  intro i
  by_cases hi : i < n
  · by_cases he : i = id / 64
    · subst he
      rw [List.getElem?_set_self (by rw [wcells_length]; exact hi), wcells_get _ _ _ hi]
    · rw [List.getElem?_set_ne (fun h => he h.symm), wcells_get _ _ _ hi, wcells_get _ _ _ hi, word_upd_ne _ _ _ _ he]
  · rw [List.getElem?_eq_none (by rw [List.length_set, wcells_length]; omega), List.getElem?_eq_none (by rw [wcells_length]; omega)]

/-- A map's two blocks: how many pages, the words. -/
structure MapR (w : World) (b g P : Nat) (T : Nat → Bool) : Prop where
  blk : w.heap[b]? = some (.cells #[.int .i64 P, .slice (some ⟨g, 0, none⟩) (nW P) (nW P)] 131 (0, 0))
  wds : w.ownsRow 0 40 1 (.slice (some ⟨g, 0, none⟩) (nW P) (nW P)) (nW P) (wcells T (nW P))
  hi : P ≤ 1048576
theorem lt_of_heap {w : World} {b : Nat} {o : Obj} (h : w.heap[b]? = some o) : b < w.heap.size := (Array.getElem?_eq_some_iff.1 h).1
theorem MapR.ltb {w : World} {b g P : Nat} {T : Nat → Bool} (h : MapR w b g P T) : b < w.heap.size := lt_of_heap h.blk
theorem MapR.ne {w : World} {b g P : Nat} {T : Nat → Bool} (h : MapR w b g P T) : b ≠ g := fun e => by
  obtain ⟨cur, hc⟩ := (owns_blk h.wds g rfl).2.2
  have := h.blk
  rw [e, hc] at this
  simp at this
theorem MapR.c0 {w : World} {b g P : Nat} {T : Nat → Bool} (h : MapR w b g P T) : w.cell? ⟨b, 0, none⟩ = some (.int .i64 P) := cell_of_row w b 0 _ _ _ h.blk
theorem MapR.c1 {w : World} {b g P : Nat} {T : Nat → Bool} (h : MapR w b g P T) : w.cell? ⟨b, 1, none⟩ = some (.slice (some ⟨g, 0, none⟩) (nW P) (nW P)) := cell_of_row w b 1 _ _ _ h.blk
theorem MapR.cw {w : World} {b g P : Nat} {T : Nat → Bool} (h : MapR w b g P T) (i : Nat) (hi : i < nW P) : w.cell? ⟨g, i, none⟩ = some (.int .u64 (word T i : Int)) := by
  rw [h.wds.cellAt i (by omega)]; exact wcells_get _ _ _ hi
theorem MapR.only {F : Nat → Prop} {w w' : World} {b g P : Nat} {T : Nat → Bool} (h : MapR w b g P T) (ho : Only F w w') (hb : ¬ F b) (hg : ¬ F g) : MapR w' b g P T :=
  ⟨(ho.block b h.ltb hb).trans h.blk, owns_only h.wds ho (fun k hk => by cases hk; exact hg), h.hi⟩
theorem MapR.below {w w' : World} {b g P : Nat} {T : Nat → Bool} (h : MapR w b g P T) (hb : Below w.heap.size w w') : MapR w' b g P T :=
  h.only (Only.of_below (F := fun _ => False) hb) id id
theorem MapR.stored {w : World} {b g P : Nat} {T : Nat → Bool} (h : MapR w b g P T) (id : Nat) (x : Bool) : MapR (w.setCell ⟨g, id / 64, none⟩ (.int .u64 (word (upd T id x) (id / 64) : Int))) b g P (upd T id x) :=
  ⟨(Below.heap_setCell w ⟨g, id / 64, none⟩ _ b h.ne).trans h.blk, by have := (h.wds.stored (id / 64) (.int .u64 (word (upd T id x) (id / 64) : Int))).1; rw [wcells_set] at this; exact this, h.hi⟩
theorem nW_le {P : Nat} (h : P ≤ 1048576) : nW P ≤ 16384 := by unfold nW; omega
theorem nW_lo (P : Nat) : P ≤ 64 * nW P := by unfold nW; omega

end Go.Proofs.YtnaedmmfiiebaaaGreatDoor.Q

namespace Go.Proofs.YtnaedmmfiiebaaaGreatDoor.Q
open Go.RowKit

theorem wrap_pow (id : Nat) : IntKind.u64.wrap (2 ^ (id % 64)) = ((2 ^ (id % 64) : Nat) : Int) := by
  have h := two_pow_lt id
  rw [IntKind.wrap_u64, show (2 : Int) ^ (id % 64) = ((2 ^ (id % 64) : Nat) : Int) by simp]
  generalize 2 ^ (id % 64) = p at *
  omega
set_option maxHeartbeats 1000000 in
theorem bitof_any (id : Nat) (hx : id < 1125899906842624) (w : World) :
    Calls Tryz.prog 148 #[.int .i64 id] w fun e w' => e = .returned (.tuple #[.int .i64 (id / 64 : Nat), .int .u64 (2 ^ (id % 64) : Nat)]) ∧ Below w.heap.size w w' := by
  have hp := wrap_pow id
  go_enter Tryz.func148, Tryz.ntmps148
  go_wp2_with fail
  go_quiet (fail)
  have hb : Below w.heap.size w (w.drewN nq) := ⟨rfl, rfl, rfl, Nat.le_refl _, fun _ _ => rfl⟩
  go_wp2_with fail
  go_ret2
  refine ⟨?_, hb⟩
  rw [hp]
  simp

def tabOk (w : World) : Prop := ∀ j, j < 64 → w.cell? ⟨13, j, none⟩ = some (.int .u8 (Lib.deBruijn64tab.getD j 0))
theorem tabOk.below {w w' : World} (h : tabOk w) (hb : Below w.heap.size w w') : tabOk w' := fun j hj => (hb.cell (p := ⟨13, j, none⟩) (World.block_lt_of_cell? w _ (h j hj))).trans (h j hj)

end Go.Proofs.YtnaedmmfiiebaaaGreatDoor.Q

namespace Go.Proofs.YtnaedmmfiiebaaaGreatDoor.Q
open Go.RowKit

/-- The refusals in their variables and the table of bits, all below base. -/
structure Env (base : Nat) (A : Nat → Addr) (w : World) : Prop where
  errs : ErrsG 13 gAll A w
  tab : tabOk w
  lo : ∀ i, i < 13 → gAll i < base ∧ (A i).block < base
  lt : 13 < base
  size : base ≤ w.heap.size
theorem Env.keep {base : Nat} {A : Nat → Addr} {w w' : World} (h : Env base A w) (hb : Below base w w') : Env base A w' := by
  refine ⟨⟨fun i hi => ?_, h.errs.2⟩, fun j hj => ?_, h.lo, h.lt, Nat.le_trans h.size hb.size⟩
  · obtain ⟨h1, c, t, h2⟩ := h.errs.1 i hi
    obtain ⟨l1, l2⟩ := h.lo i hi
    exact ⟨(World.cell?_of_block (a := ⟨gAll i, 0, none⟩) (hb.block _ l1)).trans h1, c, t, (hb.block _ l2).trans h2⟩
  · exact (World.cell?_of_block (a := ⟨13, j, none⟩) (hb.block _ h.lt)).trans (h.tab j hj)
theorem Env.only {base : Nat} {A : Nat → Addr} {w w' : World} {F : Nat → Prop} (h : Env base A w) (hs : Only F w w') (hF : ∀ k, F k → base ≤ k) : Env base A w' := h.keep (hs.below hF h.size)
theorem Env.up {base : Nat} {A : Nat → Addr} {w w' : World} (h : Env base A w) (hb : Below w.heap.size w w') : Env base A w' := h.keep (hb.mono h.size)
theorem Env.e {base : Nat} {A : Nat → Addr} {w : World} (h : Env base A w) (i : Nat) (hi : i < 13) : w.cell? ⟨gAll i, 0, none⟩ = some (.iface 360 (.pointer (some (A i)))) := (h.errs.1 i hi).1

end Go.Proofs.YtnaedmmfiiebaaaGreatDoor.Q

namespace Go.Proofs.YtnaedmmfiiebaaaGreatDoor.Q
open Go.RowKit

set_option maxRecDepth 100000 in
set_option maxHeartbeats 1000000 in
theorem set_any (b g P : Nat) (T : Nat → Bool) (id : Nat) (w : World) (h : MapR w b g P T) (hid : id < 64 * nW P) :
    Calls Tryz.prog 108 #[.pointer (some ⟨b, 0, none⟩), .int .i64 id] w fun e w' => e = .returned (.tuple #[]) ∧ MapR w' b g P (upd T id true) ∧ Only (fun k => k = g) w w' := by
  have hn := nW_le h.hi
  have HB := hide (bitof_any id (by omega) w)
  have H := hide h
  clear h
  go_enter Tryz.func108, Tryz.ntmps108
  go_wp2_with fail
  refine HB.out.mono ?_
  rintro e w1 ⟨rfl, hb⟩
  have h1 := H.out.below hb
  have c1 := h1.c1
  have hq : id / 64 < nW P := by omega
  have cw := h1.cw (id / 64) hq
  have cf := h1.wds.frozenAt (id / 64)
  have hor : bits .or .u64 ((word T (id / 64) : Nat) : Int) ((2 ^ (id % 64) : Nat) : Int) = ((word (upd T id true) (id / 64) : Nat) : Int) := by
    rw [bits_or_u64_nat _ _ (word_lt _ _) (two_pow_lt id), word_set]
  have hst : Hid (MapR (w1.setCell ⟨g, id / 64, none⟩ (.int .u64 (word (upd T id true) (id / 64) : Int))) b g P (upd T id true) ∧ Only (fun k => k = g) w (w1.setCell ⟨g, id / 64, none⟩ (.int .u64 (word (upd T id true) (id / 64) : Int)))) :=
    ⟨h1.stored id true, (Only.of_below hb).trans (Only.set (F := fun k => k = g) rfl _ _ _)⟩
  generalize word (upd T id true) (id / 64) = x' at *
  generalize word T (id / 64) = x at *
  generalize 2 ^ (id % 64) = p at *
  generalize id / 64 = q at *
  generalize nW P = n at *
  clear h1 hb H HB
  go_wp2
  go_end0
  exact ⟨rfl, hst.out⟩

/-- All from a to b are taken besides. -/
def updR (T : Nat → Bool) (a b : Nat) : Nat → Bool := fun j => T j || (decide (a ≤ j) && decide (j < b))
theorem updR_nil (T : Nat → Bool) (a : Nat) : updR T a a = T := by
  funext j
  have : ¬ (a ≤ j ∧ j < a) := by omega
  simp [updR]; intro h1; omega
theorem updR_succ (T : Nat → Bool) (a b : Nat) (h : a ≤ b) : upd (updR T a b) b true = updR T a (b + 1) := by
  funext j
  unfold upd updR
  by_cases hj : j = b
  · subst hj; simp [h]
  · by_cases h2 : j < b
    · simp [hj, h2, show j < b + 1 by omega]
    · simp [hj, h2, show ¬ j < b + 1 by omega]

set_option maxRecDepth 100000 in
set_option maxHeartbeats 1000000 in
theorem setall_any (b g P : Nat) (T : Nat → Bool) (lo hi : Nat) (w : World) (h : MapR w b g P T) (hle : lo ≤ hi) (hid : hi ≤ 64 * nW P) :
    Calls Tryz.prog 78 #[.pointer (some ⟨b, 0, none⟩), .int .i64 lo, .int .i64 hi] w fun e w' => e = .returned (.tuple #[]) ∧ MapR w' b g P (updR T lo hi) ∧ Only (fun k => k = g) w w' := by
  have hn := nW_le h.hi
  have H := hide h
  clear h
  go_enter Tryz.func78, Tryz.ntmps78
  go_wp2_with fail
  go_loopw [6] (fun i wr => ∃ k : Nat, lo ≤ k ∧ k ≤ hi ∧ i = .int .i64 k ∧ MapR wr b g P (updR T lo k) ∧ Only (fun k => k = g) w wr) (fun i _ => hi - (intOf i).toNat)
  case atStart => exact ⟨lo, Nat.le_refl _, hle, rfl, by rw [updR_nil]; exact H.out, Only.refl _ _⟩
  case round =>
    obtain ⟨k, hk1, hk2, rfl, hm, ho⟩ := hrel
    by_cases hlt : k < hi
    · have HS := hide (set_any b g P _ k wr hm (by omega))
      have HO := hide ho
      have hkb : k < 2000000 := by omega
      clear hm ho hid hle
      generalize nW P = nn at *
      go_wp2_with fail
      refine HS.out.mono ?_
      rintro e w1 ⟨rfl, h1, o1⟩
      rw [updR_succ _ _ _ hk1] at h1
      have H1 := hide h1
      have O1 := hide (HO.out.trans o1)
      clear h1 o1 HS HO
      go_wp2
      go_roundw
      case rel => exact ⟨k + 1, by omega, by omega, by go_num, H1.out, O1.out⟩
      case measure => simp [intOf]; omega
    · have he : k = hi := by omega
      have H1 := hide hm
      have O1 := hide ho
      clear hm ho
      go_wp2
      go_end0
      rw [← he]
      exact ⟨rfl, H1.out, O1.out⟩


end Go.Proofs.YtnaedmmfiiebaaaGreatDoor.Q

namespace Go.Proofs.YtnaedmmfiiebaaaGreatDoor.Q
open Go.RowKit

end Go.Proofs.YtnaedmmfiiebaaaGreatDoor.Q

namespace Go.Proofs.YtnaedmmfiiebaaaGreatDoor.Q
open Go.RowKit

end Go.Proofs.YtnaedmmfiiebaaaGreatDoor.Q

namespace Go.Proofs.YtnaedmmfiiebaaaGreatDoor.Q
open Go.RowKit

end Go.Proofs.YtnaedmmfiiebaaaGreatDoor.Q

namespace Go.Proofs.YtnaedmmfiiebaaaGreatDoor.Q
open Go.RowKit

theorem info68 : (Tryz.prog.info? 40).map (fun i => (i.zero, i.size, i.bytes)) = some (some (.int .u64 0), 1, 8) := by kernel_rfl
theorem size68 : (Tryz.prog.info? 40).map (·.size) = some 1 := by kernel_rfl
theorem wd_none : ∀ n, wd (fun _ => false) n = 0
  | 0 => rfl
  | n + 1 => by rw [wd, wd_none n]; rfl
theorem made_cells (n : Nat) : (madeCells (Value.int .u64 0).cells (n * 1)).toList = wcells (fun _ => false) n := by
  apply List.ext_getElem?
  intro i
  by_cases hi : i < n
  · rw [wcells_get _ _ _ hi]
    simp [madeCells, Value.cells, hi, word, wd_none, Nat.mod_one]
  · rw [List.getElem?_eq_none (by simp [madeCells]; omega), List.getElem?_eq_none (by rw [wcells_length]; omega)]
/-- make([]uint64, n). -/
theorem make_words (w : World) (n : Nat) (hn : n ≤ 16384) : ∃ w', (Instr.makeSlice 129 (.int .i64 (n : Int)) (.int .i64 (n : Int))).run Tryz.prog w = .ok (.slice (some ⟨w.heap.size, 0, none⟩) n n) w' ∧
    w'.ownsRow w.heap.size 40 1 (.slice (some ⟨w.heap.size, 0, none⟩) n n) n (wcells (fun _ => false) n) ∧ Below w.heap.size w w' ∧ w.heap.size < w'.heap.size := by
  obtain ⟨i0, hi, hz, hsz, hby⟩ := info_parts info68
  obtain ⟨w', hr, ho, hg⟩ := run_makeSlice_full (P := Tryz.prog) w w.heap.size 129 40 i0 _ 1 Tryz.underlying129 hi hz hsz   .i64 .i64 n (by omega) (by rw [hby]; omega) (by unfold maxLen; omega) (Nat.le_refl _)
  rw [made_cells] at ho
  exact ⟨w', hr, ho, (Below.refl _ _).grown hg (Nat.le_refl _) (fun j h => by cases h), (owns_blk ho _ rfl).2.1⟩
theorem wcells_one (T : Nat → Bool) (n : Nat) : ∀ u ∈ wcells T n, u.oneCell' = true := by
  intro u hu
  simp only [wcells, List.mem_map] at hu
  obtain ⟨c, _, rfl⟩ := hu
  rfl

set_option maxRecDepth 100000 in
set_option maxHeartbeats 400000 in
theorem copy_any (b g P : Nat) (T : Nat → Bool) (w : World) (h : MapR w b g P T) :
    Calls Tryz.prog 69 #[.pointer (some ⟨b, 0, none⟩)] w fun e w' => ∃ b' g', e = .returned (.pointer (some ⟨b', 0, none⟩)) ∧ w.heap.size ≤ b' ∧ w.heap.size ≤ g' ∧ MapR w' b' g' P T ∧ Below w.heap.size w w' := by
  have c1 := h.c1
  have hn := nW_le h.hi
  obtain ⟨w1, hmk, ho1, hb1, hs1⟩ := make_words w (nW P) hn
  have h1 := h.below hb1
  have d0 := h1.c0
  have d1 := h1.c1
  obtain ⟨cur, hcur⟩ := (owns_blk ho1 _ rfl).2.2
  have hcs : cur.size = nW P := by
    rcases ho1.2 with ⟨h', _⟩ | ⟨g', cap, cur', h', _, hg', _, _, hcs, _⟩
    · cases h'
    · cases h'
      rw [hcur] at hg'
      cases hg'
      omega
  have hcp := run_copy_row (P := Tryz.prog) w1 129 129 3 40 w.heap.size 0 (nW P) (nW P) ⟨g, 0, none⟩ (nW P) (nW P) cur 40 (wcells T (nW P)) Tryz.underlying129 size68 hcur (by rw [wcells_length]; exact (Nat.min_self _).symm)
    (fun j v hv => by
      by_cases hj : j < nW P
      · rw [wcells_get _ _ _ hj] at hv
        cases hv
        rw [add_plain', Nat.zero_add]
        exact h1.cw j hj
      · rw [List.getElem?_eq_none (by rw [wcells_length]; omega)] at hv; cases hv) (by rw [wcells_length]; omega) (wcells_one _ _)
  obtain ⟨w2, hw2⟩ : ∃ w2, w2 = w1.setRow w.heap.size (cur.toList.take 0 ++ wcells T (nW P) ++ cur.toList.drop (0 + (wcells T (nW P)).length)).toArray := ⟨_, rfl⟩
  rw [← hw2] at hcp
  rw [show goInt (wcells T (nW P)).length = goInt (nW P) by rw [wcells_length]] at hcp
  have hb2 : Below w.heap.size w w2 := by
    rw [hw2]
    exact ⟨hb1.os, hb1.tape, hb1.output, by rw [size_setRow]; exact hb1.size, fun k hk => by rw [setRow_other _ _ _ _ (by omega)]; exact hb1.block k hk⟩
  have hg2 : w2.heap[w.heap.size]? = some (.cells (cur.toList.take 0 ++ wcells T (nW P) ++ cur.toList.drop (0 + (wcells T (nW P)).length)).toArray 40 (0, 0)) := by
    rw [hw2]; exact setRow_heap _ _ _ _ _ _ hcur
  have ho2 : w2.ownsRow 0 40 1 (.slice (some ⟨w.heap.size, 0, none⟩) (nW P) (nW P)) (nW P) (wcells T (nW P)) := by
    refine ⟨by rw [wcells_length]; omega, .inr ⟨w.heap.size, nW P, _, rfl, Nat.zero_le _, hg2, Nat.le_refl _, by unfold maxLen; omega, ?_, ?_⟩⟩
    · simp [wcells_length]; omega
    · simp [wcells_length]
  have h2 := h.below hb2
  have e0 := h2.c0
  have e1 := h2.c1
  have HB2 := hide hb2
  have HO2 := hide ho2
  have HS := hide (lt_of_heap hg2)
  have hP := h.hi
  have HP := hide hP
  have HM : Hid (∀ n, n = nW P → MapR (w2.alloc (.cells #[.int .i64 P, .slice (some ⟨w.heap.size, 0, none⟩) n n] 131)) w2.heap.size w.heap.size P T) := fun n hn => by
    subst hn
    exact ⟨heap_alloc_new _ _, owns_below HO2.out (below_new _ _), HP.out⟩
  obtain ⟨n, hN⟩ : ∃ n, n = nW P := ⟨_, rfl⟩
  rw [← hN] at c1 hn hmk d1 e1 hcp
  have HMN := hide (HM.out n hN)
  have hgo : goInt n = .int .i64 (n : Int) := by simp [goInt]
  rw [hgo] at hcp
  clear hgo HM hN hP ho1 hb1 hs1 h1 hcur hcs hw2 hb2 hg2 ho2 h2 h
  go_enter Tryz.func69, Tryz.ntmps69
  go_wp2_with fail
  go_ret
  exact ⟨_, _, rfl, by have := HB2.out.size; omega, Nat.le_refl _, HMN.out, HB2.out.alloc HB2.out.size _⟩

end Go.Proofs.YtnaedmmfiiebaaaGreatDoor.Q

namespace Go.Proofs.YtnaedmmfiiebaaaGreatDoor.Q
open Go.RowKit

/-- A new map: the two of the metas are taken, and all behind the end. -/
def T0 (P : Nat) : Nat → Bool := fun j => decide (j < 2) || decide (P ≤ j)
theorem word_congr {T T' : Nat → Bool} {n i : Nat} (h : ∀ j, j < 64 * n → T j = T' j) (hi : i < n) : word T i = word T' i := by
  apply Nat.eq_of_testBit_eq
  intro j
  rw [testBit_word, testBit_word]
  by_cases hj : j < 64
  · rw [h _ (by omega)]
  · simp [hj]
theorem wcells_congr {T T' : Nat → Bool} {n : Nat} (h : ∀ j, j < 64 * n → T j = T' j) : wcells T n = wcells T' n := by
  apply List.ext_getElem?
  intro i
  by_cases hi : i < n
  · rw [wcells_get _ _ _ hi, wcells_get _ _ _ hi, word_congr h hi]
  · rw [List.getElem?_eq_none (by rw [wcells_length]; omega), List.getElem?_eq_none (by rw [wcells_length]; omega)]
theorem MapR.congr {w : World} {b g P : Nat} {T T' : Nat → Bool} (h : MapR w b g P T) (he : ∀ j, j < 64 * nW P → T j = T' j) : MapR w b g P T' :=
  ⟨h.blk, by rw [← wcells_congr he]; exact h.wds, h.hi⟩

set_option maxRecDepth 100000 in
set_option maxHeartbeats 400000 in
theorem new_any (P : Nat) (w : World) (h4 : 4 ≤ P) (hP : P ≤ 1048576) :
    Calls Tryz.prog 39 #[.int .i64 (P : Int)] w fun e w' => ∃ b g, e = .returned (.tuple #[.pointer (some ⟨b, 0, none⟩), .nilIface]) ∧ w.heap.size ≤ b ∧ w.heap.size ≤ g ∧ MapR w' b g P (T0 P) ∧ Below w.heap.size w w' := by
  have hn := nW_le hP
  have hlo := nW_lo P
  obtain ⟨w1, hmk, ho1, hb1, hs1⟩ := make_words w (nW P) hn
  have hm1 : MapR (w1.alloc (.cells #[.int .i64 P, .slice (some ⟨w.heap.size, 0, none⟩) (nW P) (nW P)] 131)) w1.heap.size w.heap.size P (fun _ => false) :=
    ⟨heap_alloc_new _ _, owns_weak (owns_below ho1 (below_new _ _)) (Nat.zero_le _), hP⟩
  have HS := hide (setall_any w1.heap.size w.heap.size P _ 0 2 _ hm1 (by omega) (by omega))
  have HB1 : Hid (Below w.heap.size w (w1.alloc (.cells #[.int .i64 P, .slice (some ⟨w.heap.size, 0, none⟩) (nW P) (nW P)] 131))) := hb1.alloc hb1.size _
  have HS1 := hide hs1
  have hdv : ((P : Int) + 63) / 64 = (nW P : Int) := by unfold nW; omega
  have hq : ((P : Int) + 64 - 1) / 64 = (nW P : Int) := by unfold nW; omega
  have HNW : Hid (P ≤ 64 * nW P) := hlo
  clear ho1 hb1 hs1 hm1 hlo
  obtain ⟨n, hN⟩ : ∃ n, n = nW P := ⟨_, rfl⟩
  rw [← hN] at hn hmk HS HB1 hdv hq
  have HN := hide hN
  clear hN
  go_enter Tryz.func39, Tryz.ntmps39
  go_wp2_with fail
  refine HS.out.mono ?_
  rintro e w2 ⟨rfl, h2, o2⟩
  have HS2 := hide (setall_any w1.heap.size w.heap.size P _ P (64 * nW P) _ h2 HNW.out (Nat.le_refl _))
  have c1 := h2.c1
  rw [← HN.out] at c1 HS2
  have HB2 : Hid (Below w.heap.size w w2) := by
    have hb : Below w.heap.size (w1.alloc (.cells #[.int .i64 P, .slice (some ⟨w.heap.size, 0, none⟩) n n] 131)) w2 := o2.below (fun k hk => by show w.heap.size ≤ k; rw [show k = w.heap.size from hk]; exact Nat.le_refl _) HB1.out.size
    exact HB1.out.trans hb
  clear h2 o2 HS
  generalize hW : w1.heap.size = b1 at *
  have HWB := hide hW
  clear hW hmk
  have h64 : IntKind.i64.wrap ((n : Int) * 64) = ((64 * n : Nat) : Int) := by rw [IntKind.wrap_i64]; omega
  obtain ⟨m, hm⟩ : ∃ m, m = 64 * n := ⟨_, rfl⟩
  rw [← hm] at h64 HS2
  have HM := hide hm
  have hmI : (n : Int) * 64 = (m : Int) := by omega
  clear hm
  go_wp2_with fail
  refine HS2.out.mono ?_
  rintro e w3 ⟨rfl, h3, o3⟩
  have h3' := h3.congr (T' := T0 P) (fun j hj => by
    unfold updR T0
    have hm := HM.out
    rw [HN.out] at hm
    have : j < m := by omega
    simp [this])
  have H3 := hide h3'
  have HB3 : Hid (Below w.heap.size w w3) := HB2.out.trans (o3.below (fun k hk => by show w.heap.size ≤ k; rw [show k = w.heap.size from hk]; exact Nat.le_refl _) HB2.out.size)
  clear h3 h3' o3 HS2
  go_wp2_with fail
  go_ret2
  exact ⟨_, _, rfl, by have := HWB.out; have := HS1.out; omega, Nat.le_refl _, H3.out, HB3.out⟩

end Go.Proofs.YtnaedmmfiiebaaaGreatDoor.Q
