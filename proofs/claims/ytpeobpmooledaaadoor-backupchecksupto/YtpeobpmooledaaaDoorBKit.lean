import Derived.Test.YtpeobpmooledaaaDoorGB
import Derived.Test.YtpeobpmooledaaaDoorRefPut
import Derived.Test.YtpeobpmooledaaaDoorRefCrc
import Derived.Lib.AppendStr
import Derived.Laws.ResultCell
import Derived.Deep.DrawnRows
namespace Go.Proofs.YtpeobpmooledaaaDoor
open Go.RowKit
attribute [local go_sem ↓] Go.wp_at_zero Go.wp_at_succ

theorem rowR_new (w : World) (cs : Array Value) (t : TypeId) : RowR (w.alloc (.cells cs t)) (.slice (some ⟨w.heap.size, 0, none⟩) cs.size cs.size) cs.toList :=
  ⟨_, _, by rw [Array.length_toList], by simp, fun h => (by cases h), fun j u hj => ⟨_, _, rfl, by
    have hj' := (List.getElem?_eq_some_iff.1 hj).1
    rw [Nat.zero_add, (boxed_new w cs t).2 j (by simpa using hj')]
    rw [← hj, List.getElem?_eq_getElem]⟩⟩
theorem nt2 (x : Nat) (h : x < 4294967296) : nt (nt x) = x := by unfold nt; omega
theorem crcReg_lt' (l : List UInt8) : crcReg (nt 0) l < 4294967296 := crcReg_lt l _ (by decide)
/-- The bytes l in a slice of the call's own. -/
def BO (w : World) (base : Nat) (v : Value) (l : List UInt8) : Prop := w.ownsRow base 5 1 v l.length (u8s l)
theorem BO.form {w : World} {base : Nat} {v : Value} {l : List UInt8} (h : BO w base v l) : ∃ x d, v = .slice x l.length d := by
  rcases h.2 with ⟨rfl, h0⟩ | ⟨g, cap, cur, rfl, _⟩
  · exact ⟨none, 0, by rw [h0]⟩
  · exact ⟨_, _, rfl⟩
theorem BO.below {w w' : World} {base : Nat} {v : Value} {l : List UInt8} (h : BO w base v l) (hb : Below w.heap.size w w') : BO w' base v l := by
  refine ⟨h.1, ?_⟩
  rcases h.2 with h' | ⟨g, cap, cur, h', h1, h2, hr⟩
  · exact .inl h'
  · exact .inr ⟨g, cap, cur, h', h1, (hb.block g (Array.getElem?_eq_some_iff.1 h2).1).trans h2, hr⟩
theorem BO.nil (w : World) (base : Nat) : BO w base (.slice none 0 0) [] := World.ownsRow_nil _ _ _ _
theorem BO.lt {w : World} {base : Nat} {v : Value} {l : List UInt8} (h : BO w base v l) : ∀ k, v.ownBlock = some k → base ≤ k ∧ k < w.heap.size := World.ownsRow.lt h
theorem append_bb (base : Nat) (v s : Value) (xs us : List UInt8) (w : World) (hown : BO w base v xs) (hs : RowR w s (u8s us)) (hb : xs.length + us.length ≤ 140737488355328) (hbase : base ≤ w.heap.size) :
    ∃ a' cap' w', (Builtin.append_ #[41, 41] 41 #[v, s]).run Tryd.prog w = .ok (.slice a' (xs.length + us.length) cap') w' ∧ BO w' base (.slice a' (xs.length + us.length) cap') (xs ++ us) ∧ w.grownBy w' v.ownBlock := by
  obtain ⟨a', c', w', hr, ho, hg⟩ := append_row 41 5 _ 1 Tryd.info5 Tryd.underlying41 rfl base xs.length v (u8s xs) w hown s (u8s us) hs (u8s_one us) (by rw [u8s_length, Nat.mul_one]; exact hb) (Nat.le_refl _) hbase
  rw [u8s_length] at hr ho
  refine ⟨a', c', w', hr, ?_, hg⟩
  unfold BO
  rw [u8s_append, List.length_append]
  exact ho
set_option maxHeartbeats 1000000 in
theorem rbytes_any (n m : Nat) (w : World) (hn : n < 18446744073709551616) (h1 : 1 ≤ m) (h8 : m ≤ 8) (hfit : n < 2 ^ (8 * m)) :
    Calls Tryd.prog 26 #[.int .i64 (n : Int), .int .i64 (m : Int)] w fun e w' => ∃ v, e = .returned v ∧ RowR w' v (u8s (beBytes n m)) ∧ Below w.heap.size w w' := by
  have HP := hide (rput_ok n m w hn h1 h8 hfit)
  have hw : IntKind.u64.wrap (n : Int) = (n : Int) := by rw [IntKind.wrap_u64]; omega
  clear hfit
  go_enter Tryd.func26, Tryd.ntmps26
  go_wp2_with fail
  refine HP.out.mono ?_
  rintro e w1 ⟨v, rfl, ho, hb⟩
  have HO := hide (rowR_of_owns ho)
  have HB := hide hb
  clear ho hb HP
  go_wp2
  go_ret
  exact ⟨_, rfl, HO.out, HB.out⟩
theorem one_u8 (w : World) (c : UInt8) : RowR (w.alloc (.cells #[.int .u8 (c.toNat : Int)] 5)) (.slice (some ⟨w.heap.size, 0, none⟩) 1 1) (u8s [c]) := rowR_new w #[.int .u8 (c.toNat : Int)] 5
/-- One byte behind the others. -/
theorem push_u8 (base : Nat) (v : Value) (xs : List UInt8) (c : UInt8) (w : World) (hown : BO w base v xs) (hb : xs.length + 1 ≤ 140737488355328) (hbase : base ≤ w.heap.size) :
    ∃ a' c' w', (Builtin.append_ #[41, 41] 41 #[v, .slice (some ⟨w.heap.size, 0, none⟩) 1 1]).run Tryd.prog (w.alloc (.cells #[.int .u8 (c.toNat : Int)] 5)) = .ok (.slice a' (xs.length + 1) c') w' ∧ BO w' base (.slice a' (xs.length + 1) c') (xs ++ [c]) ∧ Below base w w' := by
  have hbn := below_new w (.cells #[.int .u8 (c.toNat : Int)] 5)
  obtain ⟨a', c', w2, hrun, hown2, hgr⟩ := append_bb base v _ xs [c] _ (hown.below hbn) (one_u8 w c) hb (Nat.le_trans hbase hbn.size)
  exact ⟨a', c', w2, hrun, hown2, ((Below.refl base w).trans (hbn.mono hbase)).grown hgr (Nat.le_trans hbase hbn.size) (fun k hk => (hown.lt k hk).1)⟩
theorem results_row_tmp {P : Program} {fn : Func} {p u : Tmp} {ty : TypeId} (h : fn.results = #[.cell p ty, .tmp u]) (tmps : Array Value) (w : World) (g : Nat) (t : TypeId) (cs : Array Value) (fr : Nat × Nat) (d : TypeDesc)
    (hp : tmps.getD p undef = .pointer (some ⟨g, 0, none⟩)) (hg : w.heap[g]? = some (.cells cs t fr)) (hu : P.underlying ty = some d) (hd : (match d with | .struct _ | .array _ _ => true | _ => false) = true) (hi : (P.info? ty).map (·.size) = some cs.size) :
    (results fn tmps).run P w = .ok (.tuple #[.agg cs, tmps.getD u undef]) w := by
  rw [results_cell_tmp h tmps P w, hp]
  simp [asAddr, run_loadVar_row w g t ty cs fr d hg hu hd hi, Result.andThen]
/-- A block that is a whole row. -/
def RowAt (w : World) (b : Nat) (cs : Array Value) (t : TypeId) : Prop := w.heap[b]? = some (.cells cs t (0, 0))
section
variable {w w' : World} {b : Nat} {cs : Array Value} {t : TypeId}
theorem RowAt.cell (h : RowAt w b cs t) (j : Nat) (hj : j < cs.size) : w.cell? ⟨b, j, none⟩ = some cs[j] := by
  rw [cell_of_row _ _ _ _ _ _ h]; simp [hj]
theorem RowAt.free (h : RowAt w b cs t) (j : Nat) : w.frozen? ⟨b, j, none⟩ = false := frozen_of_row _ _ _ _ _ h
theorem RowAt.lt (h : RowAt w b cs t) : b < w.heap.size := by
  rcases Nat.lt_or_ge b w.heap.size with h' | h'
  · exact h'
  · unfold RowAt at h; rw [Array.getElem?_eq_none h'] at h; cases h
theorem RowAt.below (h : RowAt w b cs t) (hb : Below w.heap.size w w') : RowAt w' b cs t := by
  unfold RowAt; rw [hb.block b h.lt]; exact h
theorem RowAt.new (w : World) (cs : Array Value) (t : TypeId) : RowAt (w.alloc (.cells cs t)) w.heap.size cs t := heap_alloc_new w _
theorem RowAt.other {g j : Nat} (h : RowAt w b cs t) (hne : b ≠ g) (u : Value) : RowAt (w.setCell ⟨g, j, none⟩ u) b cs t := by
  unfold RowAt; rw [Below.heap_setCell _ _ _ _ (fun e => hne e)]; exact h
end

/-- The cells of an archive; a slice of numbers and one of parcels are the archive's lists. -/
def arC (a : Ar) (vi vp : Value) : Array Value := #[.int .i64 a.pg, .int .i64 a.rt, .int .u64 (a.tx : Int), .int .u64 (a.si : Int), vi, vp, .int .u32 (a.sum : Int)]
structure ArR (w : World) (a : Ar) (vi vp : Value) : Prop where
  ids : RowR w vi (ints a.ids)
  pcs : PcR w vp a.pcs
theorem ArR.below {w w' : World} {a : Ar} {vi vp : Value} (h : ArR w a vi vp) (hb : Below w.heap.size w w') : ArR w' a vi vp := ⟨h.ids.below hb, h.pcs.below hb⟩
/-- The numbers of an archive are those of their types; its lists are such as a machine's can be. -/
structure ArFit (a : Ar) : Prop where
  pg : -9223372036854775808 ≤ a.pg ∧ a.pg ≤ 9223372036854775807
  rt : -9223372036854775808 ≤ a.rt ∧ a.rt ≤ 9223372036854775807
  tx : a.tx < 18446744073709551616
  si : a.si < 18446744073709551616
  sum : a.sum < 4294967296
  ids : ∀ x ∈ a.ids, -9223372036854775808 ≤ x ∧ x ≤ 9223372036854775807
  pcs : ∀ p ∈ a.pcs, (-9223372036854775808 ≤ p.id ∧ p.id ≤ 9223372036854775807) ∧ p.tx < 18446744073709551616 ∧ p.dat.size ≤ 1048576
  ni : a.ids.length ≤ 1048640
  np : a.pcs.length ≤ 1048640
end Go.Proofs.YtpeobpmooledaaaDoor
