import Derived.Test.YtdghlblgmihbpaaDoorFNew2
import Derived.Laws.Rows
import Derived.Laws.ResultCell
namespace Go.Proofs.YtdghlblgmihbpaaDoor
open Go.RowKit

structure SaidD where
  err : Nat
  a : Nat
  b : Nat
  ok : Bool
  list : List Nat
def said0 : SaidD := ⟨0, 0, 0, false, []⟩
/-- One step of a map. -/
def actD (P : Nat) (T : Nat → Bool) (K n : Int) : (Nat → Bool) × SaidD :=
  if K = 1 then ((markD P T n).2, { said0 with err := numE (markD P T n).1 })
  else if K = 2 then ((clearD P T n).2, { said0 with err := numE (clearD P T n).1 })
  else if K = 3 then (T, { said0 with ok := usedB P T n })
  else if K = 4 then (T, { said0 with a := (frl T P).length, b := P })
  else if K = 5 then ((takeD P T n).2.2, { said0 with err := numE (takeD P T n).1, list := (takeD P T n).2.1 })
  else (T, said0)
theorem isE_mark (P : Nat) (T : Nat → Bool) (n : Int) : IsE (markD P T n).1 := by
  unfold markD
  split
  · split <;> simp [IsE]
  · simp [IsE]
theorem isE_clear (P : Nat) (T : Nat → Bool) (n : Int) : IsE (clearD P T n).1 := by
  unfold clearD
  split
  · split <;> simp [IsE]
  · simp [IsE]
theorem isE_take (P : Nat) (T : Nat → Bool) (n : Int) : IsE (takeD P T n).1 := by
  unfold takeD
  split
  · simp [IsE]
  · split <;> simp [IsE]
theorem upd_okT {P : Nat} {T : Nat → Bool} (h : MapOk P T) (id : Nat) : MapOk P (upd T id true) := by
  refine ⟨h.lo, h.hi, ?_, ?_, fun j hj => ?_⟩
  · unfold upd; split; rfl; exact h.t0
  · unfold upd; split; rfl; exact h.t1
  · unfold upd; split; rfl; exact h.up j hj
theorem upd_okF {P : Nat} {T : Nat → Bool} (h : MapOk P T) (id : Nat) (h1 : 2 ≤ id) (h2 : id < P) : MapOk P (upd T id false) := by
  refine ⟨h.lo, h.hi, ?_, ?_, fun j hj => ?_⟩
  · rw [upd_ne _ _ _ _ (by omega)]; exact h.t0
  · rw [upd_ne _ _ _ _ (by omega)]; exact h.t1
  · rw [upd_ne _ _ _ _ (by omega)]; exact h.up j hj
theorem mark_ok {P : Nat} {T : Nat → Bool} (h : MapOk P T) (n : Int) : MapOk P (markD P T n).2 := by
  unfold markD
  split
  · split
    · exact h
    · exact upd_okT h _
  · exact h
theorem clear_ok {P : Nat} {T : Nat → Bool} (h : MapOk P T) (n : Int) : MapOk P (clearD P T n).2 := by
  unfold clearD
  split
  · rename_i ht
    simp only [treeB, Bool.and_eq_true, decide_eq_true_eq] at ht
    split
    · exact upd_okF h _ (by omega) (by omega)
    · exact h
  · exact h
theorem updL_ok {P : Nat} {T : Nat → Bool} (h : MapOk P T) (l : List Nat) : MapOk P (updL T l) :=
  ⟨h.lo, h.hi, by simp [updL, h.t0], by simp [updL, h.t1], fun j hj => by simp [updL, h.up j hj]⟩
theorem take_ok {P : Nat} {T : Nat → Bool} (h : MapOk P T) (n : Int) : MapOk P (takeD P T n).2.2 := by
  unfold takeD
  split
  · exact h
  · split
    · exact h
    · exact updL_ok h _
theorem act_ok {P : Nat} {T : Nat → Bool} (h : MapOk P T) (K n : Int) : MapOk P (actD P T K n).1 := by
  unfold actD
  repeat' split
  · exact mark_ok h n
  · exact clear_ok h n
  · exact h
  · exact h
  · exact take_ok h n
  · exact h

def zSaid : Array Value := #[.int .i64 0, .int .i64 0, .int .i64 0, .bool false, .slice none 0 0]
def saidC (s : SaidD) (v : Value) : Array Value := #[.int .i64 (s.err : Int), .int .i64 (s.a : Int), .int .i64 (s.b : Int), .bool s.ok, v]
theorem sizeSaid : (Tryd.prog.info? 30).map (·.size) = some 5 := by kernel_rfl
theorem said_store (w : World) (r : Nat) (old cs : Array Value) (hr : w.heap[r]? = some (.cells old 30 (0, 0))) (ho : old.size = 5) (hc : cs.size = 5) (h1 : cs.all (·.oneCell') = true) :
    (Instr.storeAt 30 (.pointer (some ⟨r, 0, none⟩)) (.agg cs)).run Tryd.prog w = .ok () (w.setRow r cs) := by
  simp only [Instr.storeAt, Instr.sureAddr, Sem.run_bind, Sem.run_pure, Result.andThen_ok]
  exact run_storeVar_row w r 30 30 old cs hr (by rw [sizeSaid, hc]) (by rw [ho, hc]) h1
/-- Where act begins: the step's box, the answer's block. -/
structure ActIn (w w2 : World) (cs : List Value) : Prop where
  bel : Below w.heap.size w w2
  size : w2.heap.size = w.heap.size + 2
  box : Boxed w.heap.size cs w2
  ans : w2.heap[w.heap.size + 1]? = some (.cells zSaid 30 (0, 0))
theorem actIn (w : World) (cs : Array Value) : ActIn w ((w.alloc (.cells cs 33)).alloc (.cells zSaid 30)) cs.toList := by
  refine ⟨(below_new w _).alloc (by simp) _, by simp, ?_, ?_⟩
  · exact (boxed_new w cs 33).below (below_new _ _)
  · have := heap_alloc_new (w.alloc (.cells cs 33)) (.cells zSaid 30)
    simpa using this
theorem act_fin {w w2 w3 : World} {F : Nat → Prop} {cs : List Value} (s : SaidD) {v : Value} (hi : ActIn w w2 cs) (hF : ∀ k, F k → k < w.heap.size ∨ w2.heap.size ≤ k) (hs : Only F w2 w3)
    (rl : w3.ownsRow w2.heap.size 3 1 v s.list.length (nats s.list)) :
    ∃ w4, (Instr.storeAt 30 (.pointer (some ⟨w.heap.size + 1, 0, none⟩)) (.agg (saidC s v))).run Tryd.prog w3 = .ok () w4 ∧ w4.heap[w.heap.size + 1]? = some (.cells (saidC s v) 30 (0, 0)) ∧
      w4.ownsRow w.heap.size 3 1 v s.list.length (nats s.list) ∧ Only (fun k => k = w.heap.size + 1) w3 w4 ∧ Only F w w4 := by
  have hsz := hi.size
  have hFr : ¬ F (w.heap.size + 1) := fun h => by have := hF _ h; omega
  have h3 : w3.heap[w.heap.size + 1]? = some (.cells zSaid 30 (0, 0)) := (hs.block _ (by omega) hFr).trans hi.ans
  have hob : v.oneCell' = true := by obtain ⟨a, c, h, _⟩ := owns_form rl; rw [h]; rfl
  have hne : ∀ k, k ≠ w.heap.size + 1 → (w3.setRow (w.heap.size + 1) (saidC s v)).heap[k]? = w3.heap[k]? := fun k hk => setRow_other _ _ _ _ hk
  have sE : Only (fun k => k = w.heap.size + 1) w3 (w3.setRow (w.heap.size + 1) (saidC s v)) := ⟨rfl, rfl, rfl, by simp [World.setRow], fun k _ hk => hne k hk⟩
  have rl2 := owns_only rl sE (fun g hg e => by have := (owns_blk rl g hg).1; have : g = w.heap.size + 1 := e; omega)
  refine ⟨_, said_store w3 _ zSaid (saidC s v) h3 rfl rfl (by simp [saidC, Value.oneCell']; exact hob), setRow_heap _ _ _ _ _ _ h3, owns_weak rl2 (by omega), sE, ?_⟩
  refine ⟨hs.os.trans hi.bel.os, hs.tape.trans hi.bel.tape, hs.output.trans hi.bel.output, ?_, fun k hk hn => ?_⟩
  · have := hs.size; simp [World.setRow]; omega
  · rw [hne k (by omega), hs.block k (by omega) hn, hi.bel.block k hk]
theorem wpList_store_eq {P : Program} {ops : Array Oper} {rest : List Oper} {op : Oper} {a : Act} {w w' : World} {Q : Exit → Act → World → Prop} (hgd : op.guard = none) (ty : TypeId) (x y : Operand) (ho : op.op = .store ty x y)
    (p v : Value) (hx : a.eval x = p) (hy : a.eval y = v) (hrun : (Instr.storeAt ty p v).run P w = .ok () w') (h : wpList P ops Q rest (a.put op.dst undef) w') : wpList P ops Q (op :: rest) a w :=
  wpList_plain hgd fun _ hK => by
    unfold Oper.wp execOp
    simp only [ho, hx, hy, Sem.run_bind, hrun, Result.andThen_ok, Sem.run_pure]
    exact hK _ _ h

end Go.Proofs.YtdghlblgmihbpaaDoor
