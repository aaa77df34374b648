import Derived.Test.YtgljkgkophaefabDoorOrd3
import Derived.Test.YtgljkgkophaefabDoorOwn
namespace Go.Proofs.YtgljkgkophaefabDoor
open Go.RowKit

/-- Of the blocks that were there all but rb are as they were. -/
structure Sole (rb : Nat) (w w' : World) : Prop where
  os : w'.os = w.os
  tape : w'.tape = w.tape
  output : w'.output = w.output
  size : w.heap.size ≤ w'.heap.size
  block : ∀ k, k < w.heap.size → k ≠ rb → w'.heap[k]? = w.heap[k]?
theorem Sole.refl (rb : Nat) (w : World) : Sole rb w w := ⟨rfl, rfl, rfl, Nat.le_refl _, fun _ _ _ => rfl⟩
theorem Sole.trans {rb : Nat} {a b c : World} (h : Sole rb a b) (k : Sole rb b c) : Sole rb a c :=
  ⟨k.os.trans h.os, k.tape.trans h.tape, k.output.trans h.output, Nat.le_trans h.size k.size, fun i hi hn => (k.block i (Nat.lt_of_lt_of_le hi h.size) hn).trans (h.block i hi hn)⟩
theorem Sole.of_below {rb : Nat} {w w' : World} (h : Below w.heap.size w w') : Sole rb w w' := ⟨h.os, h.tape, h.output, h.size, fun k hk _ => h.block k hk⟩
theorem Sole.set (rb o : Nat) (w : World) (u : Value) : Sole rb w (w.setCell ⟨rb, o, none⟩ u) :=
  ⟨rfl, rfl, rfl, by simp [World.setCell], fun k _ hn => Below.heap_setCell w ⟨rb, o, none⟩ u k (fun e => hn e)⟩
theorem Sole.below {rb : Nat} {w0 w w' : World} (h : Sole rb w w') (hb : Below w0.heap.size w0 w) (hr : w0.heap.size ≤ rb) : Below w0.heap.size w0 w' :=
  hb.trans ⟨h.os, h.tape, h.output, h.size, fun k hk => h.block k (Nat.lt_of_lt_of_le hk hb.size) (by omega)⟩
theorem Sole.cell {rb : Nat} {w w' : World} (h : Sole rb w w') {a : Addr} {v : Value} (hc : w.cell? a = some v) (hn : a.block ≠ rb) : w'.cell? a = some v :=
  (World.cell?_of_block (a := a) (h.block a.block (World.block_lt_of_cell? w a hc) hn)).trans hc
theorem Sole.its {rb : Nat} {w w' : World} {F : Nat → Prop} {v : Value} {l : List It} (h : ItsAt w F v l) (hs : Sole rb w w') (hf : ∀ g, F g → g ≠ rb) : ItsAt w' F v l :=
  h.but (row := some rb) ⟨hs.size, fun k hk hn => hs.block k hk (fun e => hn (by rw [e]))⟩ (fun g hg e => hf g hg (Option.some.inj e))

/-- The reader's block, with what is left to read. -/
def RdAt (w : World) (rb : Nat) (t : ByteArray) : Prop := w.heap[rb]? = some (.cells #[.string t] 55 (0, 0))
theorem RdAt.cell {w : World} {rb : Nat} {t : ByteArray} (h : RdAt w rb t) : w.cell? ⟨rb, 0, none⟩ = some (.string t) := by
  rw [cell_of_row w rb 0 _ _ _ h]; rfl
theorem RdAt.frozen {w : World} {rb : Nat} {t : ByteArray} (h : RdAt w rb t) : w.frozen? ⟨rb, 0, none⟩ = false := by
  unfold World.frozen?
  rw [show w.heap[(⟨rb, 0, none⟩ : Addr).block]? = _ from h]
  rfl
theorem RdAt.lt {w : World} {rb : Nat} {t : ByteArray} (h : RdAt w rb t) : rb < w.heap.size := by
  rcases Nat.lt_or_ge rb w.heap.size with h' | h'
  · exact h'
  · unfold RdAt at h; rw [Array.getElem?_eq_none h'] at h; cases h
theorem RdAt.set {w : World} {rb : Nat} {t : ByteArray} (h : RdAt w rb t) (t' : ByteArray) : RdAt (w.setCell ⟨rb, 0, none⟩ (.string t')) rb t' := by
  unfold RdAt World.setCell
  simp only [Array.getElem?_modify]
  rw [show w.heap[rb]? = _ from h]
  simp
theorem RdAt.keep {w w' : World} {rb : Nat} {t : ByteArray} (h : RdAt w rb t) (hb : Below w.heap.size w w') : RdAt w' rb t := by
  unfold RdAt; rw [hb.block rb h.lt]; exact h
/-- The refusal that is panicked with. -/
def TextAt (aT : Addr) (w : World) : Prop := w.cell? ⟨1, 0, none⟩ = some (.iface 76 (.pointer (some aT)))
@[reducible] def gone (aT : Addr) : Ending := .panicked [{ v := .iface 76 (.pointer (some aT)), recovered := false }]

set_option maxHeartbeats 400000 in
theorem giveUp_any (aT : Addr) (p : Value) (w : World) (ht : TextAt aT w) : Calls Tryd.prog 38 #[p] w fun e w' => e = gone aT ∧ w = w' := by
  have c0 : w.cell? ⟨1, 0, none⟩ = some (.iface 76 (.pointer (some aT))) := ht
  clear ht
  go_enter Tryd.func38, Tryd.ntmps38
  go_wp2
  exact ⟨rfl, rfl, rfl⟩

set_option maxHeartbeats 400000 in
theorem take_ok (rb n : Nat) (t : ByteArray) (w : World) (hr : RdAt w rb t) (hn : n ≤ t.size) :
    Calls Tryd.prog 52 #[.pointer (some ⟨rb, 0, none⟩), .int .i64 (n : Int)] w fun e w' => e = .returned (.string (t.extract 0 n)) ∧ w' = w.setCell ⟨rb, 0, none⟩ (.string (t.extract n t.size)) := by
  have c0 := hr.cell
  have f0 := hr.frozen
  have i1 : (0 : Int) ≤ (n : Int) := by omega
  have i2 : (n : Int) ≤ (t.size : Int) := by omega
  clear hr
  go_enter Tryd.func52, Tryd.ntmps52
  go_wp2_with fail
  go_ret
  exact ⟨rfl, rfl⟩

set_option maxHeartbeats 400000 in
theorem take_no (aT : Addr) (rb n : Nat) (t : ByteArray) (w : World) (ht : TextAt aT w) (hr : RdAt w rb t) (hn : t.size < n) :
    Calls Tryd.prog 52 #[.pointer (some ⟨rb, 0, none⟩), .int .i64 (n : Int)] w fun e w' => e = gone aT ∧ w = w' := by
  have c0 := hr.cell
  have i2 : (t.size : Int) < (n : Int) := by omega
  clear hr
  go_enter Tryd.func52, Tryd.ntmps52
  go_wp2_with fail
  refine (giveUp_any aT _ w ht).mono ?_
  rintro e w1 ⟨rfl, rfl⟩
  exact ⟨rfl, rfl, rfl⟩

end Go.Proofs.YtgljkgkophaefabDoor
