import Derived.Test.YtdacbajiapdiiabDoorLay2
import Derived.Test.YtdacbajiapdiiabDoorCRead
import Derived.Test.YtdacbajiapdiiabDoorCut2
import Derived.Lib.AppendStr
import Derived.Laws.BitsAllLaws
namespace Go.Proofs.YtdacbajiapdiiabDoor
open Go.RowKit

theorem own_form1 {w : World} {base e n : Nat} {v : Value} {xs : List Value} (h : w.ownsRow base e 1 v n xs) : ∃ a c, v = .slice a n c := by
  rcases h.2 with ⟨rfl, rfl⟩ | ⟨g, cap, cur, rfl, _⟩
  · exact ⟨_, _, rfl⟩
  · exact ⟨_, _, rfl⟩
theorem owns_below {w w' : World} {base e n : Nat} {v : Value} {us : List Value} (h : w.ownsRow base e 1 v n us) (hb : Below w.heap.size w w') : w'.ownsRow base e 1 v n us := by
  refine ⟨h.1, ?_⟩
  rcases h.2 with h' | ⟨g', cap, cur, rfl, hbg, hg, hnc, hcm, hcs, htk⟩
  · exact .inl h'
  · have hlt : g' < w.heap.size := by
      rcases Nat.lt_or_ge g' w.heap.size with h' | h'
      · exact h'
      · rw [Array.getElem?_eq_none h'] at hg; cases hg
    exact .inr ⟨g', cap, cur, rfl, hbg, (hb.block g' hlt).trans hg, hnc, hcm, hcs, htk⟩

theorem lit_row (w : World) (us : List Value) (e : TypeId) (n : Nat) (hn : us.length = n) (hm : n ≤ maxLen) : RowR (w.alloc (.cells us.toArray e)) (.slice (some ⟨w.heap.size, 0, none⟩) n n) us :=
  rowR_of_owns (World.ownsRow_lit (base := 0) (e := e) (size := 1) w us.toArray n (Nat.zero_le _) hm (by simpa using hn))
theorem strCells_eq (s : ByteArray) : Lib.strCells s = u8s s.data.toList := by
  simp [Lib.strCells, u8s]

set_option maxHeartbeats 400000 in
theorem wpList_append_run2 {ops : Array Oper} {rest : List Oper} {o : Oper} {a : Act} {w : World} {Q : Exit → Act → World → Prop} (t u : TypeId) (hgd : o.guard = none) (d x : Operand)
    (ho : o.op = .call { callee := .builtin .append, args := #[d, x], argTypes := #[t, u] }) (hty : o.type = t) (vd vx : Value) (hd : a.eval d = vd) (hx : a.eval x = vx) (v : Value) (w' : World)
    (hrun : (Builtin.append_ #[t, u] t #[vd, vx]).run Tryd.prog w = .ok v w') (h : wpList Tryd.prog ops Q rest (a.put o.dst v) w') : wpList Tryd.prog ops Q (o :: rest) a w :=
  wpList_plain hgd fun _ hK => by
    unfold Oper.wp
    simp [execOp, ho, resolve, invoke, builtin, hd, hx, hty, hrun, Result.andThen]
    exact hK _ _ h
theorem append_str (base : Nat) (n : Nat) (v : Value) (xs : List UInt8) (w : World) (hown : w.ownsRow base 5 1 v n (u8s xs)) (s : ByteArray) (hb : n + s.size ≤ 140737488355328) (hbase : base ≤ w.heap.size) :
    ∃ a' cap' w', (Builtin.append_ #[78, 9] 78 #[v, .string s]).run Tryd.prog w = .ok (.slice a' (n + s.size) cap') w' ∧ w'.ownsRow base 5 1 (.slice a' (n + s.size) cap') (n + s.size) (u8s (xs ++ s.data.toList)) ∧ w.grownBy w' v.ownBlock := by
  obtain ⟨i0, hi, hz, hsz, hby⟩ := info_parts Tryd.info5
  obtain ⟨v', w', hr, ho, hg, _⟩ := Lib.run_append_own_string (P := Tryd.prog) w base 78 9 78 5 i0 Tryd.underlying78 Tryd.underlying9 hi hz hsz hby v n _ hown s (by unfold maxLen; omega) hb hbase
  have hf : ∃ a' c', v' = .slice a' (n + s.size) c' := by
    rcases ho.2 with ⟨rfl, h0⟩ | ⟨g, cap, cur, rfl, _⟩
    · exact ⟨none, 0, by rw [h0]⟩
    · exact ⟨_, _, rfl⟩
  obtain ⟨a', c', rfl⟩ := hf
  exact ⟨a', c', w', hr, by rw [u8s_append, ← strCells_eq]; exact ho, hg⟩


end Go.Proofs.YtdacbajiapdiiabDoor
