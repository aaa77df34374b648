import Derived.Test.YtdieacdkomiooabDoorL2
namespace Go.Proofs.YtdieacdkomiooabDoor
open Go.RowKit Go.Maps

structure Stp where
  kind : Int
  sector : Int
  n : Int
  data : ByteArray
  fates : List Fate
structure SaidD where
  err : Nat
  bytes : List UInt8
  secs : List Sec
  a : Int
  b : Int
  c : Int
def said0 : SaidD := ⟨0, [], [], 0, 0, 0⟩
/-- One step, in the document's words. -/
def Dev.act (d : Dev) (s : Stp) : Dev × SaidD :=
  if s.kind = 1 then ((d.write s.sector (bl s.data)).1, { said0 with err := (d.write s.sector (bl s.data)).2 })
  else if s.kind = 2 then (d.sync.1, { said0 with err := d.sync.2 })
  else if s.kind = 3 then ((d.read s.sector s.n).1, { said0 with err := (d.read s.sector s.n).2.2, bytes := (d.read s.sector s.n).2.1 })
  else if s.kind = 4 then (d.crash s.fates, said0)
  else if s.kind = 5 then (d.arm s.n s.fates, said0)
  else if s.kind = 6 then (d.revive, said0)
  else if s.kind = 7 then (d, { said0 with secs := d.dur })
  else if s.kind = 8 then (d, { said0 with secs := d.pend })
  else if s.kind = 9 then (d, { said0 with a := d.nr, b := d.nw, c := d.ns })
  else (d, said0)
structure ActPost (w : World) (b : Nat) (F : Nat → Prop) (r : Dev × SaidD) (e : Ending) (w' : World) (vb vs : Value) (F' : Nat → Prop) : Prop where
  ret : e = .returned (.agg #[.int .i64 (r.2.err : Int), vb, vs, .int .i64 r.2.a, .int .i64 r.2.b, .int .i64 r.2.c])
  rb : w'.ownsRow w.heap.size 5 1 vb r.2.bytes.length (u8s r.2.bytes)
  rs : w'.ownsRow w.heap.size 68 2 vs r.2.secs.length (secCells r.2.secs)
  dev : DevAt w' b F' r.1
  step : Step F F' w w'
  nb : ∀ g, vb.ownBlock = some g → ¬ F' g
  ns : ∀ g, vs.ownBlock = some g → ¬ F' g
def zSaid : Array Value := #[.int .i64 0, .slice none 0 0, .slice none 0 0, .int .i64 0, .int .i64 0, .int .i64 0]
theorem sizeSaid : (Tryd.prog.info? 38).map (·.size) = some 6 := by kernel_rfl
theorem undSaid : ∃ fs, Tryd.prog.underlying 38 = some (.struct fs) := ⟨_, Tryd.underlying38⟩
theorem said_store (w : World) (r : Nat) (old cs : Array Value) (hr : w.heap[r]? = some (.cells old 38 (0, 0))) (ho : old.size = 6) (hc : cs.size = 6) (h1 : cs.all (·.oneCell') = true) :
    (Instr.storeAt 38 (.pointer (some ⟨r, 0, none⟩)) (.agg cs)).run Tryd.prog w = .ok () (w.setRow r cs) := by
  simp only [Instr.storeAt, Instr.sureAddr, Sem.run_bind, Sem.run_pure, Result.andThen_ok]
  exact run_storeVar_row w r 38 38 old cs hr (by rw [sizeSaid, hc]) (by rw [ho, hc]) h1
/-- Where act begins: the step's box, the answer's block. -/
structure ActIn (w w2 : World) (cs : List Value) : Prop where
  bel : Below w.heap.size w w2
  size : w2.heap.size = w.heap.size + 2
  box : Boxed w.heap.size cs w2
  ans : w2.heap[w.heap.size + 1]? = some (.cells zSaid 38 (0, 0))
theorem actIn (w : World) (cs : Array Value) : ActIn w ((w.alloc (.cells cs 35)).alloc (.cells zSaid 38)) cs.toList := by
  refine ⟨(below_new w _).alloc (by simp) _, by simp, ?_, ?_⟩
  · exact (boxed_new w cs 35).below (below_new _ _)
  · have := heap_alloc_new (w.alloc (.cells cs 35)) (.cells zSaid 38)
    simpa using this
theorem act_fin {w w2 w3 : World} {b : Nat} {F F' : Nat → Prop} {cs : List Value} {r : Dev × SaidD} {vb vs : Value} (hi : ActIn w w2 cs) (hF : ∀ k, F k → k < w.heap.size) (hd : DevAt w3 b F' r.1) (hs : Step F F' w2 w3)
    (rb : w3.ownsRow w2.heap.size 5 1 vb r.2.bytes.length (u8s r.2.bytes)) (rs : w3.ownsRow w2.heap.size 68 2 vs r.2.secs.length (secCells r.2.secs)) (nb : ∀ g, vb.ownBlock = some g → ¬ F' g) (ns : ∀ g, vs.ownBlock = some g → ¬ F' g) (X : Array Value)
    (hX : X = #[.int .i64 (r.2.err : Int), vb, vs, .int .i64 r.2.a, .int .i64 r.2.b, .int .i64 r.2.c]) :
    w3.heap[w.heap.size + 1]? = some (.cells zSaid 38 (0, 0)) ∧ (Instr.storeAt 38 (.pointer (some ⟨w.heap.size + 1, 0, none⟩)) (.agg X)).run Tryd.prog w3 = .ok () (w3.setRow (w.heap.size + 1) X) ∧
      (w3.setRow (w.heap.size + 1) X).heap[w.heap.size + 1]? = some (.cells X 38 (0, 0)) ∧ ActPost w b F r (.returned (.agg X)) (w3.setRow (w.heap.size + 1) X) vb vs F' := by
  have hsz := hi.size
  have hFr : ¬ F (w.heap.size + 1) := fun h => by have := hF _ h; omega
  have hF'r : ¬ F' (w.heap.size + 1) := fun h => (hs.sub _ h).elim hFr (fun h => by omega)
  have h3 : w3.heap[w.heap.size + 1]? = some (.cells zSaid 38 (0, 0)) := (hs.block _ (by omega) hFr).trans hi.ans
  have hob : vb.oneCell' = true := by obtain ⟨a, c, h, _⟩ := owns_form rb; rw [h]; rfl
  have hos : vs.oneCell' = true := by obtain ⟨a, c, h, _⟩ := owns_form rs; rw [h]; rfl
  have hne : ∀ k, k ≠ w.heap.size + 1 → (w3.setRow (w.heap.size + 1) X).heap[k]? = w3.heap[k]? := fun k hk => by
    have : w.heap.size + 1 ≠ k := fun e => hk e.symm
    simp [World.setRow, Array.getElem?_modify, this]
  have sE : Step (fun k => k = w.heap.size + 1) (fun k => k = w.heap.size + 1) w3 (w3.setRow (w.heap.size + 1) X) := ⟨rfl, rfl, rfl, by simp [World.setRow], fun k _ hk => hne k hk, fun _ h => .inl h⟩
  have rb2 := owns_step rb sE (fun g hg e => by have := (owns_blk rb g hg).1; omega)
  have rs2 := owns_step rs sE (fun g hg e => by have := (owns_blk rs g hg).1; omega)
  have weak : ∀ (e size n : Nat) (v : Value) (xs : List Value), (w3.setRow (w.heap.size + 1) X).ownsRow w2.heap.size e size v n xs → (w3.setRow (w.heap.size + 1) X).ownsRow w.heap.size e size v n xs := fun e size n v xs h => by
    refine ⟨h.1, h.2.imp id ?_⟩
    rintro ⟨g, cap, cur, h1, h2, h3⟩
    exact ⟨g, cap, cur, h1, by omega, h3⟩
  refine ⟨h3, ?_, setRow_heap _ _ _ _ _ _ h3, ⟨by rw [hX], weak _ _ _ _ _ rb2, weak _ _ _ _ _ rs2, hd.keep sE (fun k hk e => hF'r (by rw [← e]; exact hk)), ?_, nb, ns⟩⟩
  · exact said_store w3 _ zSaid X h3 rfl (by rw [hX]; rfl) (by rw [hX]; simp [Value.oneCell']; exact ⟨hob, hos⟩)
  · refine ⟨hs.os.trans hi.bel.os, hs.tape.trans hi.bel.tape, hs.output.trans hi.bel.output, ?_, fun k hk hn => ?_, fun k hk => ?_⟩
    · have := hs.size; simp [World.setRow]; omega
    · rw [hne k (by omega), hs.block k (by omega) hn, hi.bel.block k hk]
    · exact (hs.sub k hk).imp id (fun h => by omega)

end Go.Proofs.YtdieacdkomiooabDoor
