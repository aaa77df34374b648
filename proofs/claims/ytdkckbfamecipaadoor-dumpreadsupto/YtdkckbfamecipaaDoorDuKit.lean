import Derived.Test.YtdkckbfamecipaaDoorDuSmall
import Derived.Test.YtdkckbfamecipaaDoorPrOwn
import Derived.Test.YtdkckbfamecipaaDoorWWords
import Derived.Deep.RegionHeld3
import Derived.Deep.DrawnRows
import Derived.Laws.ResultCell
import Derived.Laws.CopyOwn
import Derived.Deep.DeepCutAuto
import Derived.Deep.CutBlock
namespace Go.Proofs.YtdkckbfamecipaaDoor
open Go.RowKit

/-- A block that is a whole row. -/
def RowAt (w : World) (b : Nat) (cs : Array Value) (t : TypeId) : Prop := w.heap[b]? = some (.cells cs t (0, 0))
section
variable {w w' : World} {b : Nat} {cs : Array Value} {t : TypeId}
theorem RowAt.cell (h : RowAt w b cs t) (j : Nat) (hj : j < cs.size) : w.cell? ⟨b, j, none⟩ = some cs[j] := by
  rw [cell_of_row _ _ _ _ _ _ h]; simp [hj]
theorem RowAt.free (h : RowAt w b cs t) (j : Nat) : w.frozen? ⟨b, j, none⟩ = false := frozen_of_row _ _ _ _ _ h
theorem RowAt.lt (h : RowAt w b cs t) : b < w.heap.size := by
  rcases Nat.lt_or_ge b w.heap.size with h' | h'
  · exact h'
  · unfold RowAt at h; rw [Array.getElem?_eq_none h'] at h; cases h
theorem RowAt.below (h : RowAt w b cs t) (hb : Below w.heap.size w w') : RowAt w' b cs t := by
  unfold RowAt; rw [hb.block b h.lt]; exact h
theorem RowAt.new (w : World) (cs : Array Value) (t : TypeId) : RowAt (w.alloc (.cells cs t)) w.heap.size cs t := heap_alloc_new w _
theorem RowAt.other {g j : Nat} (h : RowAt w b cs t) (hne : b ≠ g) (u : Value) : RowAt (w.setCell ⟨g, j, none⟩ u) b cs t := by
  unfold RowAt; rw [Below.heap_setCell _ _ _ _ (fun e => hne e)]; exact h
end
theorem wpList_store_eq {P : Program} {ops : Array Oper} {rest : List Oper} {op : Oper} {a : Act} {w w' : World} {Q : Exit → Act → World → Prop} (hgd : op.guard = none) (ty : TypeId) (x y : Operand) (ho : op.op = .store ty x y)
    (p v : Value) (hx : a.eval x = p) (hy : a.eval y = v) (hrun : (Instr.storeAt ty p v).run P w = .ok () w') (h : wpList P ops Q rest (a.put op.dst undef) w') : wpList P ops Q (op :: rest) a w :=
  wpList_plain hgd fun _ hK => by
    unfold Oper.wp execOp
    simp only [ho, hx, hy, Sem.run_bind, hrun, Result.andThen_ok, Sem.run_pure]
    exact hK _ _ h
/-- A store of a whole struct. -/
theorem store_row (w : World) (H : Nat) (t : TypeId) (old cs : Array Value) (hr : RowAt w H old t) (hi : (Tryd.prog.info? t).map (·.size) = some cs.size) (ho : old.size = cs.size) (h1 : cs.all Value.oneCell' = true) : (Instr.storeAt t (.pointer (some ⟨H, 0, none⟩)) (.agg cs)).run Tryd.prog w = .ok () (w.setRow H cs) := by
  have := run_storeVar_row (P := Tryd.prog) w H t t old cs hr hi ho h1
  simp only [Instr.storeAt, Instr.sureAddr, Sem.run_bind, Sem.run_pure, Result.andThen_ok, this]
theorem row_set (w : World) (H : Nat) (t : TypeId) (old cs : Array Value) (hr : RowAt w H old t) : RowAt (w.setRow H cs) H cs t := setRow_heap w H old cs _ _ hr
/-- strconv.Itoa does what it says, from this world on. -/
def ItoAt (w : World) : Prop := ∀ (W : World) (n : Int), Below w.heap.size w W → -9223372036854775808 ≤ n → n ≤ 9223372036854775807 → Calls Tryd.prog 13 #[.int .i64 n] W fun e w' => e = .returned (.string (itoaB n)) ∧ Below W.heap.size W w'
theorem ItoAt.keep {w w' : World} (h : ItoAt w) (hb : Below w.heap.size w w') : ItoAt w' := fun W n hW h1 h2 => h W n (Below.next hb hW) h1 h2
theorem StrR.get {w : World} {a : Option Addr} {n c : Nat} {ws : List ByteArray} (h : StrR w (.slice a n c) ws) (j : Nat) (hj : j < ws.length) : ∃ g o, a = some ⟨g, o, none⟩ ∧ w.cell? ⟨g, o + j, none⟩ = some (.string ws[j]) := by
  obtain ⟨a', c', he, _, hc⟩ := h
  cases he
  exact hc j hj
theorem StrR.len {w : World} {a : Option Addr} {n c : Nat} {ws : List ByteArray} (h : StrR w (.slice a n c) ws) : n = ws.length := by
  obtain ⟨a', c', he, _, hc⟩ := h
  cases he; rfl
end Go.Proofs.YtdkckbfamecipaaDoor
