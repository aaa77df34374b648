import Derived.Test.YtiihnoohodklhaaDoorBX
import Derived.Test.YtiihnoohodklhaaDoorRefPut
import Derived.Lib.AppendStr
import Derived.Test.YtiihnoohodklhaaDoorFDat
namespace Go.Proofs.YtiihnoohodklhaaDoor
open Go.RowKit
attribute [local go_sem ↓] Go.wp_at_zero Go.wp_at_succ

theorem wpList_append_run2 {ops : Array Oper} {rest : List Oper} {o : Oper} {a : Act} {w : World} {Q : Exit → Act → World → Prop} (t u : TypeId) (hgd : o.guard = none) (d x : Operand)
    (ho : o.op = .call { callee := .builtin .append, args := #[d, x], argTypes := #[t, u] }) (hty : o.type = t) (vd vx : Value) (hd : a.eval d = vd) (hx : a.eval x = vx) (v : Value) (w' : World)
    (hrun : (Builtin.append_ #[t, u] t #[vd, vx]).run Tryd.prog w = .ok v w') (h : wpList Tryd.prog ops Q rest (a.put o.dst v) w') : wpList Tryd.prog ops Q (o :: rest) a w :=
  wpList_plain hgd fun _ hK => by
    unfold Oper.wp
    simp [execOp, ho, resolve, invoke, builtin, hd, hx, hty, hrun, Result.andThen]
    exact hK _ _ h
theorem strCells_eq (s : ByteArray) : Lib.strCells s = u8s s.data.toList := by
  simp [Lib.strCells, u8s]
theorem append_str (base : Nat) (n : Nat) (v : Value) (xs : List UInt8) (w : World) (hown : w.ownsRow base 5 1 v n (u8s xs)) (s : ByteArray) (hb : n + s.size ≤ 140737488355328) (hbase : base ≤ w.heap.size) :
    ∃ a' cap' w', (Builtin.append_ #[49, 9] 49 #[v, .string s]).run Tryd.prog w = .ok (.slice a' (n + s.size) cap') w' ∧ w'.ownsRow base 5 1 (.slice a' (n + s.size) cap') (n + s.size) (u8s (xs ++ s.data.toList)) ∧ w.grownBy w' v.ownBlock := by
  obtain ⟨i0, hi, hz, hsz, hby⟩ := info_parts Tryd.info5
  obtain ⟨v', w', hr, ho, hg, _⟩ := Lib.run_append_own_string (P := Tryd.prog) w base 49 9 49 5 i0 Tryd.underlying49 Tryd.underlying9 hi hz hsz hby v n _ hown s (by unfold maxLen; omega) hb hbase
  have hf : ∃ a' c', v' = .slice a' (n + s.size) c' := by
    rcases ho.2 with ⟨rfl, h0⟩ | ⟨g, cap, cur, rfl, _⟩
    · exact ⟨none, 0, by rw [h0]⟩
    · exact ⟨_, _, rfl⟩
  obtain ⟨a', c', rfl⟩ := hf
  exact ⟨a', c', w', hr, by rw [u8s_append, ← strCells_eq]; exact ho, hg⟩
/-- The bytes l in a slice of the call's own. -/
def BO (w : World) (base : Nat) (v : Value) (l : List UInt8) : Prop := w.ownsRow base 5 1 v l.length (u8s l)
theorem BO.form {w : World} {base : Nat} {v : Value} {l : List UInt8} (h : BO w base v l) : ∃ x d, v = .slice x l.length d := by
  rcases h.2 with ⟨rfl, h0⟩ | ⟨g, cap, cur, rfl, _⟩
  · exact ⟨none, 0, by rw [h0]⟩
  · exact ⟨_, _, rfl⟩
theorem BO.below {w w' : World} {base : Nat} {v : Value} {l : List UInt8} (h : BO w base v l) (hb : Below w.heap.size w w') : BO w' base v l := by
  refine ⟨h.1, ?_⟩
  rcases h.2 with h' | ⟨g, cap, cur, h', h1, h2, hr⟩
  · exact .inl h'
  · exact .inr ⟨g, cap, cur, h', h1, (hb.block g (Array.getElem?_eq_some_iff.1 h2).1).trans h2, hr⟩
theorem BO.nil (w : World) (base : Nat) : BO w base (.slice none 0 0) [] := World.ownsRow_nil _ _ _ _
theorem BO.lt {w : World} {base : Nat} {v : Value} {l : List UInt8} (h : BO w base v l) : ∀ k, v.ownBlock = some k → base ≤ k ∧ k < w.heap.size := World.ownsRow.lt h
theorem append_bb (base : Nat) (v s : Value) (xs us : List UInt8) (w : World) (hown : BO w base v xs) (hs : RowR w s (u8s us)) (hb : xs.length + us.length ≤ 140737488355328) (hbase : base ≤ w.heap.size) :
    ∃ a' cap' w', (Builtin.append_ #[49, 49] 49 #[v, s]).run Tryd.prog w = .ok (.slice a' (xs.length + us.length) cap') w' ∧ BO w' base (.slice a' (xs.length + us.length) cap') (xs ++ us) ∧ w.grownBy w' v.ownBlock := by
  obtain ⟨a', c', w', hr, ho, hg⟩ := append_row 49 5 _ 1 Tryd.info5 Tryd.underlying49 rfl base xs.length v (u8s xs) w hown s (u8s us) hs (u8s_one us) (by rw [u8s_length, Nat.mul_one]; exact hb) (Nat.le_refl _) hbase
  rw [u8s_length] at hr ho
  refine ⟨a', c', w', hr, ?_, hg⟩
  unfold BO
  rw [u8s_append, List.length_append]
  exact ho
set_option maxHeartbeats 2000000 in
theorem appn_any (base : Nat) (v : Value) (xs : List UInt8) (n m : Nat) (w : World) (hown : BO w base v xs) (hn : n < 18446744073709551616) (h1 : 1 ≤ m) (h8 : m ≤ 8) (hfit : n < 2 ^ (8 * m)) (hb : xs.length ≤ 70368744177664) (hbase : base ≤ w.heap.size) :
    Calls Tryd.prog 33 #[v, .int .u64 (n : Int), .int .i64 (m : Int)] w fun e w' => ∃ v', e = .returned v' ∧ BO w' base v' (xs ++ beBytes n m) ∧ Below base w w' := by
  obtain ⟨x, d, hv⟩ := hown.form
  subst hv
  have HP := hide (fun W => put_ok n m W hn h1 h8 hfit)
  have HO := hide hown
  have HL := hide (beBytes_len n m h8)
  clear hown hfit
  go_enter Tryd.func33, Tryd.ntmps33
  go_wp2_with fail
  refine (HP.out _).mono ?_
  rintro e w1 ⟨g, c2, rfl, ho, hb1⟩
  have hrow : RowR w1 (.slice (some ⟨g, 0, none⟩) m c2) (u8s (beBytes n m)) := rowR_of_owns ho
  obtain ⟨a', c', w2, hrun, hown2, hgr⟩ := append_bb base (.slice x xs.length d) _ xs (beBytes n m) w1 (HO.out.below hb1) hrow (by rw [HL.out]; omega) (Nat.le_trans hbase hb1.size)
  have HRUN := hide hrun
  have HO2 := hide hown2
  have HB2 : Hid (Below base w w2) := (((Below.refl base w).trans (hb1.mono hbase)).grown hgr (Nat.le_trans hbase hb1.size) (fun k hk => (HO.out.lt k hk).1))
  clear ho hb1 hrow hrun hown2 hgr HP
  go_wp2_with (first | (at_builtin; refine wpList_append_run 49 rfl _ _ rfl rfl _ _ rfl rfl _ _ HRUN.out ?_))
  go_wp2
  go_ret
  exact ⟨_, rfl, HO2.out, HB2.out⟩
set_option maxHeartbeats 2000000 in
theorem appf_any (base : Nat) (v : Value) (xs : List UInt8) (b : Bool) (w : World) (hown : BO w base v xs) (hb : xs.length ≤ 70368744177664) (hbase : base ≤ w.heap.size) :
    Calls Tryd.prog 34 #[v, .bool b] w fun e w' => ∃ v', e = .returned v' ∧ BO w' base v' (xs ++ [if b then 1 else 0]) ∧ Below base w w' := by
  obtain ⟨x, d, hv⟩ := hown.form
  subst hv
  have hz : ∀ c : UInt8, RowR (w.alloc (.cells #[.int .u8 (c.toNat : Int)] 5)) (.slice (some ⟨w.heap.size, 0, none⟩) 1 1) (u8s [c]) := fun c => ⟨_, _, rfl, Nat.le_refl _, fun h => (by cases h), fun j u hj => ⟨_, _, rfl, by
    have hj' := (List.getElem?_eq_some_iff.1 hj).1
    have h0 : j = 0 := by simpa [u8s] using hj'
    subst h0
    have := (boxed_new w #[.int .u8 (c.toNat : Int)] 5).2 0 (by simp)
    rw [Nat.zero_add]
    rw [this]
    simpa [u8s] using hj⟩⟩
  have HO := hide hown
  have hbn := below_new w
  clear hown
  cases b with
  | true =>
    obtain ⟨a', c', w2, hrun, hown2, hgr⟩ := append_bb base (.slice x xs.length d) _ xs [1] _ (HO.out.below (hbn _)) (hz 1) (by simp; omega) (Nat.le_trans hbase (hbn _).size)
    have HRUN := hide hrun
    have HO2 := hide hown2
    have HB2 : Hid (Below base w w2) := (((Below.refl base w).trans ((hbn _).mono hbase)).grown hgr (Nat.le_trans hbase (hbn _).size) (fun k hk => (HO.out.lt k hk).1))
    clear hrun hown2 hgr hz hbn
    go_enter Tryd.func34, Tryd.ntmps34
    go_wp2_with (first | (at_builtin; refine wpList_append_run 49 rfl _ _ rfl rfl _ _ rfl rfl _ _ HRUN.out ?_))
    go_wp2
    go_ret
    exact ⟨_, rfl, HO2.out, HB2.out⟩
  | false =>
    obtain ⟨a', c', w2, hrun, hown2, hgr⟩ := append_bb base (.slice x xs.length d) _ xs [0] _ (HO.out.below (hbn _)) (hz 0) (by simp; omega) (Nat.le_trans hbase (hbn _).size)
    have HRUN := hide hrun
    have HO2 := hide hown2
    have HB2 : Hid (Below base w w2) := (((Below.refl base w).trans ((hbn _).mono hbase)).grown hgr (Nat.le_trans hbase (hbn _).size) (fun k hk => (HO.out.lt k hk).1))
    clear hrun hown2 hgr hz hbn
    go_enter Tryd.func34, Tryd.ntmps34
    go_wp2_with (first | (at_builtin; refine wpList_append_run 49 rfl _ _ rfl rfl _ _ rfl rfl _ _ HRUN.out ?_))
    go_wp2
    go_ret
    exact ⟨_, rfl, HO2.out, HB2.out⟩
end Go.Proofs.YtiihnoohodklhaaDoor
