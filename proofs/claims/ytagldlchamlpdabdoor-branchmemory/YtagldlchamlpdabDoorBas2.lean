import Derived.Test.YtagldlchamlpdabDoorBox
import Derived.BigQuiet
import Derived.Laws.IdiomStrings
import Derived.Test.YtagldlchamlpdabDoorHide
import Derived.Test.YtagldlchamlpdabDoorBase
import Derived.Lib.AppendZeros
import Derived.Laws.ResultCell
namespace Go.Proofs.YtagldlchamlpdabDoor
open Go.RowKit

theorem ret_int {k : IntKind} {a b : Int} (h : a = b) : Ending.returned (.int k a) = .returned (.int k b) := by rw [h]
theorem take_all_eq {l1 l2 : List UInt8} (hl : l1.length = l2.length) (h : l1.take l1.length = l2.take l1.length) : l1 = l2 := by
  rw [List.take_of_length_le (Nat.le_refl _), List.take_of_length_le (Nat.le_of_eq hl.symm)] at h
  exact h
theorem below_drewN' {B : Nat} {a w : World} (h : Below B a w) (n : Nat) : Below B a (w.drewN n) := ⟨h.os, h.tape, h.output, h.size, h.block⟩

end Go.Proofs.YtagldlchamlpdabDoor

namespace Go.Proofs.YtagldlchamlpdabDoor
open Go.RowKit

/-- The slice value v reads as the values us, one cell each. -/
def RowR (w : World) (v : Value) (us : List Value) : Prop := ∃ a cap, v = .slice a us.length cap ∧ us.length ≤ cap ∧ (a = none → cap = 0) ∧ ∀ j u, us[j]? = some u → ∃ g o, a = some ⟨g, o, none⟩ ∧ w.cell? ⟨g, o + j, none⟩ = some u
theorem RowR.below {w w' : World} {v : Value} {us : List Value} (h : RowR w v us) (hb : Below w.heap.size w w') : RowR w' v us := by
  obtain ⟨a, cap, rfl, hle, hn, hc⟩ := h
  refine ⟨a, cap, rfl, hle, hn, fun j u hj => ?_⟩
  obtain ⟨g, o, ha, hcell⟩ := hc j u hj
  exact ⟨g, o, ha, (hb.cell (p := ⟨g, o + j, none⟩) (World.block_lt_of_cell? w _ hcell)).trans hcell⟩
theorem rowR_of_owns {w : World} {base e n : Nat} {v : Value} {us : List Value} (h : w.ownsRow base e 1 v n us) : RowR w v us := by
  have hl := h.1
  rw [Nat.mul_one] at hl
  rcases h.2 with ⟨rfl, hn⟩ | ⟨g, cap, cur, rfl, hb, hg, hnc, hcm, hcs, htk⟩
  · have h0 : us.length = 0 := by omega
    exact ⟨none, 0, by rw [h0], by omega, fun _ => rfl, fun j u hj => by rw [List.length_eq_zero_iff.1 h0] at hj; simp at hj⟩
  · refine ⟨some ⟨g, 0, none⟩, cap, by rw [hl], by omega, fun h => (by cases h), fun j u hj => ⟨g, 0, rfl, ?_⟩⟩
    have hj' := (List.getElem?_eq_some_iff.1 hj).1
    rw [Nat.zero_add, h.cellAt j (by omega)]; exact hj
theorem RowR.take {w : World} {a : Option Addr} {n m cap : Nat} {us : List Value} (h : RowR w (.slice a n cap) us) (hm : m ≤ n) : RowR w (.slice a m cap) (us.take m) := by
  obtain ⟨a', cap', he, hle, hn, hc⟩ := h
  cases he
  refine ⟨a, cap, by rw [List.length_take, Nat.min_eq_left hm], by rw [List.length_take]; omega, hn, fun j u hj => hc j u ?_⟩
  rw [List.getElem?_take] at hj
  split at hj
  · exact hj
  · cases hj
theorem add_plain' (b o c : Nat) : (⟨b, o, none⟩ : Addr).add c = ⟨b, o + c, none⟩ := by
  unfold Addr.add
  split
  · rename_i h; rw [h, Nat.add_zero]
  · rfl

/-- append(v, s...). -/
theorem append_row (t e : TypeId) (z : Value) (bytes : Nat) (hinfo : (Tryd.prog.info? e).map (fun i => (i.zero, i.size, i.bytes)) = some (some z, 1, bytes)) (ht : Tryd.prog.underlying t = some (.slice e)) (hz1 : z.cells.size = 1) (base n : Nat) (v : Value) (xs : List Value) (w : World) (hown : w.ownsRow base e 1 v n xs)
    (s : Value) (us : List Value) (hs : RowR w s us) (h1 : ∀ u ∈ us, u.oneCell' = true) (hb : (n + us.length) * bytes ≤ 140737488355328) (hb1 : 1 ≤ bytes) (hbase : base ≤ w.heap.size) :
    ∃ a' cap' w', (Builtin.append_ #[t, t] t #[v, s]).run Tryd.prog w = .ok (.slice a' (n + us.length) cap') w' ∧ w'.ownsRow base e 1 (.slice a' (n + us.length) cap') (n + us.length) (xs ++ us) ∧ w.grownBy w' v.ownBlock := by
  obtain ⟨i0, hi, hz, hsz, hby⟩ := info_parts hinfo
  obtain ⟨a, cap, rfl, hle, hnil, hc⟩ := hs
  cases a with
  | none =>
    have h0 : us = [] := by
      cases us with
      | nil => rfl
      | cons u r => obtain ⟨g, o, he, _⟩ := hc 0 u rfl; cases he
    subst h0
    rw [hnil rfl]
    have hr := run_append_owned_none (P := Tryd.prog) w base t t e i0 1 ht hi v n xs hown
    have hf : ∃ a' c', v = .slice a' n c' := by
      rcases hown.2 with ⟨rfl, rfl⟩ | ⟨g, cap, cur, rfl, _⟩
      · exact ⟨_, _, rfl⟩
      · exact ⟨_, _, rfl⟩
    obtain ⟨a', c', rfl⟩ := hf
    exact ⟨a', c', w, hr, by rw [List.append_nil]; exact hown, ⟨rfl, rfl, rfl, Nat.le_refl _, fun _ _ _ => rfl⟩⟩
  | some ad =>
    have hB : (n + us.length) * 1 ≤ (n + us.length) * bytes := Nat.mul_le_mul_left _ hb1
    obtain ⟨v', w', hr, hown', hgr, _⟩ := run_append_own (P := Tryd.prog) w base t t e i0 z 1 bytes ht hi hz hsz hby hz1 (by decide) v n xs hown ad us.length cap us (by rw [Nat.mul_one]) (fun j u hj => by
      obtain ⟨g, o, he, hcell⟩ := hc j u hj
      cases he
      rw [add_plain']; exact hcell) h1 (by unfold maxLen; omega) hb hbase
    have hf : ∃ a' c', v' = .slice a' (n + us.length) c' := by
      rcases hown'.2 with ⟨rfl, h0⟩ | ⟨g, cap, cur, rfl, _⟩
      · exact ⟨none, 0, by rw [h0]⟩
      · exact ⟨_, _, rfl⟩
    obtain ⟨a', c', rfl⟩ := hf
    exact ⟨a', c', w', hr, hown', hgr⟩

theorem wpList_append_run {ops : Array Oper} {rest : List Oper} {o : Oper} {a : Act} {w : World} {Q : Exit → Act → World → Prop} (t : TypeId) (hgd : o.guard = none) (d x : Operand)
    (ho : o.op = .call { callee := .builtin .append, args := #[d, x], argTypes := #[t, t] }) (hty : o.type = t) (vd vx : Value) (hd : a.eval d = vd) (hx : a.eval x = vx) (v : Value) (w' : World)
    (hrun : (Builtin.append_ #[t, t] t #[vd, vx]).run Tryd.prog w = .ok v w') (h : wpList Tryd.prog ops Q rest (a.put o.dst v) w') : wpList Tryd.prog ops Q (o :: rest) a w :=
  wpList_plain hgd fun _ hK => by
    unfold Oper.wp
    simp [execOp, ho, resolve, invoke, builtin, hd, hx, hty, hrun, Result.andThen]
    exact hK _ _ h

def ints (l : List Int) : List Value := l.map (Value.int .i64)
theorem ints_length (l : List Int) : (ints l).length = l.length := by simp [ints]
theorem ints_get (l : List Int) (j : Nat) (h : j < l.length) : (ints l)[j]? = some (.int .i64 l[j]) := by simp [ints, h]
theorem ints_one (l : List Int) : ∀ u ∈ ints l, u.oneCell' = true := by
  intro u hu
  simp only [ints, List.mem_map] at hu
  obtain ⟨c, _, rfl⟩ := hu
  rfl
theorem ints_append (a b : List Int) : ints (a ++ b) = ints a ++ ints b := by simp [ints]
theorem info3 : (Tryd.prog.info? 3).map (fun i => (i.zero, i.size, i.bytes)) = some (some (.int .i64 0), 1, 8) := by kernel_rfl

end Go.Proofs.YtagldlchamlpdabDoor

namespace Go.Proofs.YtagldlchamlpdabDoor
open Go.RowKit

/-- The cells of links. -/
def lks (l : List Lk) : List Value := l.flatMap fun p => [.string p.1, .int .i64 p.2]
theorem lks_cons (p : Lk) (l : List Lk) : lks (p :: l) = .string p.1 :: .int .i64 p.2 :: lks l := by simp [lks]
theorem lks_append (a b : List Lk) : lks (a ++ b) = lks a ++ lks b := by simp [lks]
theorem lks_length (l : List Lk) : (lks l).length = l.length * 2 := by
  induction l with
  | nil => rfl
  | cons p l ih => rw [lks_cons]; simp [ih]; omega
theorem lks_get (l : List Lk) : ∀ j (h : j < l.length), (lks l)[j * 2]? = some (.string l[j].1) ∧ (lks l)[j * 2 + 1]? = some (.int .i64 l[j].2) := by
  induction l with
  | nil => intro j h; simp at h
  | cons p l ih =>
    intro j h
    rw [lks_cons]
    cases j with
    | zero => exact ⟨rfl, rfl⟩
    | succ j =>
      have := ih j (by simpa using h)
      rw [show (j + 1) * 2 = j * 2 + 1 + 1 by omega]
      simpa using this
theorem lks_one (l : List Lk) : ∀ u ∈ lks l, u.oneCell' = true := by
  intro u hu
  simp only [lks, List.mem_flatMap] at hu
  obtain ⟨p, _, h⟩ := hu
  simp at h
  rcases h with rfl | rfl <;> rfl
theorem infoK : (Tryd.prog.info? 54).map (fun i => (i.zero, i.size, i.bytes)) = some (some (.agg #[.string ByteArray.empty, .int .i64 0]), 2, 24) := by kernel_rfl

/-- The texts of links are such as a machine's can be. -/
def OkK (l : List Lk) : Prop := ∀ p ∈ l, p.1.size ≤ 140737488355328
/-- The slice value v reads as the links l. -/
def LkR (w : World) (v : Value) (l : List Lk) : Prop := ∃ a cap, v = .slice a l.length cap ∧ l.length ≤ cap ∧ (a = none → cap = 0) ∧
  ∀ j (h : j < l.length), ∃ g o, a = some ⟨g, o, none⟩ ∧ w.cell? ⟨g, o + j * 2, none⟩ = some (.string l[j].1) ∧ w.cell? ⟨g, o + j * 2 + 1, none⟩ = some (.int .i64 l[j].2)
theorem LkR.below {w w' : World} {v : Value} {l : List Lk} (h : LkR w v l) (hb : Below w.heap.size w w') : LkR w' v l := by
  obtain ⟨a, cap, rfl, hle, hn, hc⟩ := h
  refine ⟨a, cap, rfl, hle, hn, fun j hj => ?_⟩
  obtain ⟨g, o, ha, h1, h2⟩ := hc j hj
  exact ⟨g, o, ha, (hb.cell (p := ⟨g, o + j * 2, none⟩) (World.block_lt_of_cell? w _ h1)).trans h1, (hb.cell (p := ⟨g, o + j * 2 + 1, none⟩) (World.block_lt_of_cell? w _ h2)).trans h2⟩
theorem LkR.form {w : World} {v : Value} {l : List Lk} (h : LkR w v l) : ∃ a c, v = .slice a l.length c := by
  obtain ⟨a, c, rfl, _⟩ := h; exact ⟨a, c, rfl⟩
theorem LkR.of_owns {w : World} {base n : Nat} {v : Value} {l : List Lk} (h : w.ownsRow base 54 2 v n (lks l)) : LkR w v l := by
  have hl := h.1
  rw [lks_length] at hl
  have hl : l.length = n := by omega
  rcases h.2 with ⟨rfl, hn⟩ | ⟨g, cap, cur, rfl, hb, hg, hnc, hcm, hcs, htk⟩
  · have h0 : l.length = 0 := by omega
    exact ⟨none, 0, by rw [h0], by omega, fun _ => rfl, fun j hj => by omega⟩
  · refine ⟨some ⟨g, 0, none⟩, cap, by rw [hl], by omega, fun h => (by cases h), fun j hj => ⟨g, 0, rfl, ?_, ?_⟩⟩
    · rw [Nat.zero_add, h.cellAt (j * 2) (by omega)]; exact (lks_get l j hj).1
    · rw [Nat.zero_add, h.cellAt (j * 2 + 1) (by omega)]; exact (lks_get l j hj).2
theorem LkR.take {w : World} {a : Option Addr} {n m cap : Nat} {l : List Lk} (h : LkR w (.slice a n cap) l) (hm : m ≤ n) : LkR w (.slice a m cap) (l.take m) := by
  obtain ⟨a', cap', he, hle, hn, hc⟩ := h
  cases he
  refine ⟨a, cap, by rw [List.length_take, Nat.min_eq_left hm], by rw [List.length_take]; omega, hn, fun j hj => ?_⟩
  rw [List.length_take] at hj
  obtain ⟨g, o, ha, h1, h2⟩ := hc j (by omega)
  exact ⟨g, o, ha, by rw [List.getElem_take]; exact h1, by rw [List.getElem_take]; exact h2⟩
theorem LkR.nil (w : World) : LkR w (.slice none 0 0) [] := ⟨none, 0, rfl, Nat.le_refl _, fun _ => rfl, fun j h => by simp at h⟩

end Go.Proofs.YtagldlchamlpdabDoor

namespace Go.Proofs.YtagldlchamlpdabDoor
open Go.RowKit

/-- A list of the call's own that reads as these links. -/
def LkO (w : World) (base : Nat) (v : Value) (l : List Lk) : Prop := w.ownsRow base 54 2 v l.length (lks l)
theorem LkO.at {w : World} {base : Nat} {v : Value} {l : List Lk} (h : LkO w base v l) : LkR w v l := LkR.of_owns h
theorem LkO.form {w : World} {base : Nat} {v : Value} {l : List Lk} (h : LkO w base v l) : ∃ a c, v = .slice a l.length c := h.at.form
theorem LkO.below {w w' : World} {base : Nat} {v : Value} {l : List Lk} (h : LkO w base v l) (hb : Below w.heap.size w w') : LkO w' base v l := by
  refine ⟨h.1, ?_⟩
  rcases h.2 with h' | ⟨g, cap, cur, h', h1, h2, hr⟩
  · exact .inl h'
  · refine .inr ⟨g, cap, cur, h', h1, ?_, hr⟩
    have hg : g < w.heap.size := by
      rcases Nat.lt_or_ge g w.heap.size with h' | h'
      · exact h'
      · rw [Array.getElem?_eq_none h'] at h2; cases h2
    rw [hb.block g hg]; exact h2
theorem LkO.mono {w : World} {b b2 : Nat} {v : Value} {l : List Lk} (h : LkO w b v l) (hb : b2 ≤ b) : LkO w b2 v l := by
  refine ⟨h.1, ?_⟩
  rcases h.2 with h' | ⟨g, cap, cur, h', h1, hr⟩
  · exact .inl h'
  · exact .inr ⟨g, cap, cur, h', Nat.le_trans hb h1, hr⟩
theorem LkO.nil (w : World) (base : Nat) : LkO w base (.slice none 0 0) [] := World.ownsRow_nil _ _ _ _

/-- append(v, s...) of links. -/
theorem append_lks (base : Nat) (v s : Value) (xs us : List Lk) (w : World) (hown : LkO w base v xs) (hs : LkR w s us) (hb : (xs.length + us.length) * 24 ≤ 140737488355328) (hbase : base ≤ w.heap.size) :
    ∃ a' cap' w', (Builtin.append_ #[28, 28] 28 #[v, s]).run Tryd.prog w = .ok (.slice a' (xs.length + us.length) cap') w' ∧ LkO w' base (.slice a' (xs.length + us.length) cap') (xs ++ us) ∧ w.grownBy w' v.ownBlock := by
  obtain ⟨i0, hi, hz, hsz, hby⟩ := info_parts infoK
  obtain ⟨a, cap, rfl, hle, hnil, hc⟩ := hs
  have hf0 : ∃ a' c', v = .slice a' xs.length c' := hown.form
  unfold LkO at hown ⊢
  rw [List.length_append, lks_append]
  cases a with
  | none =>
    have h0 : us = [] := by
      cases us with
      | nil => rfl
      | cons u r => obtain ⟨g, o, he, _⟩ := hc 0 (by simp); cases he
    subst h0
    rw [hnil rfl]
    have hr := run_append_owned_none (P := Tryd.prog) w base 28 28 54 i0 2 Tryd.underlying28 hi v xs.length (lks xs) hown
    obtain ⟨a', c', rfl⟩ := hf0
    exact ⟨a', c', w, hr, by simpa [lks] using hown, ⟨rfl, rfl, rfl, Nat.le_refl _, fun _ _ _ => rfl⟩⟩
  | some ad =>
    obtain ⟨v', w', hr, hown', hgr, _⟩ := run_append_own (P := Tryd.prog) w base 28 28 54 i0 _ 2 24 Tryd.underlying28 hi hz hsz hby rfl (by decide) v xs.length (lks xs) hown ad us.length cap (lks us) (lks_length us) (fun j u hj => by
      have hj' := (List.getElem?_eq_some_iff.1 hj).1
      rw [lks_length] at hj'
      obtain ⟨g, o, he, c1, c2⟩ := hc (j / 2) (by omega)
      cases he
      have hg := lks_get us (j / 2) (by omega)
      rw [add_plain']
      rcases Nat.mod_two_eq_zero_or_one j with hm | hm
      · have e : j / 2 * 2 = j := by omega
        rw [e] at hg c1
        rw [hg.1] at hj; cases hj; exact c1
      · have e : j / 2 * 2 + 1 = j := by omega
        rw [Nat.add_assoc, e] at c2
        rw [e] at hg
        rw [hg.2] at hj; cases hj; exact c2) (lks_one us) (by unfold maxLen; omega) hb hbase
    have hf : ∃ a' c', v' = .slice a' (xs.length + us.length) c' := by
      rcases hown'.2 with ⟨rfl, h0⟩ | ⟨g, cap, cur, rfl, _⟩
      · exact ⟨none, 0, by rw [h0]⟩
      · exact ⟨_, _, rfl⟩
    obtain ⟨a', c', rfl⟩ := hf
    exact ⟨a', c', w', hr, hown', hgr⟩

theorem LkO.blk {w : World} {base : Nat} {v : Value} {l : List Lk} (h : LkO w base v l) : ∀ k, v.ownBlock = some k → base ≤ k ∧ k < w.heap.size := World.ownsRow.lt h
theorem lkR_lit (w : World) (p : Lk) (t : TypeId) : LkR (w.alloc (.cells #[.string p.1, .int .i64 p.2] t)) (.slice (some ⟨w.heap.size, 0, none⟩) 1 1) [p] := by
  have hb := boxed_new w #[.string p.1, .int .i64 p.2] t
  refine ⟨_, _, rfl, Nat.le_refl _, fun h => (by cases h), fun j hj => ⟨_, _, rfl, ?_, ?_⟩⟩
  · have : j = 0 := by simpa using hj
    subst this
    exact hb.2 0 (by simp)
  · have : j = 0 := by simpa using hj
    subst this
    exact hb.2 1 (by simp)
/-- v = append(v, p). -/
theorem push_lks (base : Nat) (v : Value) (l : List Lk) (p : Lk) (t : TypeId) (w w0 : World) (B n : Nat) (hn : l.length = n) (hown : LkO w base v l) (hb : (n + 1) * 24 ≤ 140737488355328) (hbase : base ≤ w.heap.size) (hB : B ≤ base) (h0 : Below B w0 w) :
    ∃ a' cap' w', (Builtin.append_ #[28, 28] 28 #[v, .slice (some ⟨w.heap.size, 0, none⟩) 1 1]).run Tryd.prog (w.alloc (.cells #[.string p.1, .int .i64 p.2] t)) = .ok (.slice a' (n + 1) cap') w' ∧ LkO w' base (.slice a' (n + 1) cap') (l ++ [p]) ∧ Below B w0 w' ∧ w.heap.size ≤ w'.heap.size := by
  subst hn
  have ho : LkO (w.alloc (.cells #[.string p.1, .int .i64 p.2] t)) base v l := World.ownsRow.alloc hown _
  obtain ⟨a', cap', w', hr, hown', hg⟩ := append_lks base v _ l [p] _ ho (lkR_lit w p t) (by simpa using hb) (by simp; omega)
  refine ⟨a', cap', w', hr, hown', ?_, ?_⟩
  · refine (h0.alloc (Nat.le_trans hB hbase) _).grown hg (by simp; omega) (fun k hk => Nat.le_trans hB (hown.blk k hk).1)
  · have := hg.size
    simp at this
    omega

end Go.Proofs.YtagldlchamlpdabDoor

namespace Go.Proofs.YtagldlchamlpdabDoor
open Go.RowKit

set_option maxRecDepth 20000 in
theorem slToK (w : World) (a : Option Addr) (n cap m : Nat) (hm : m ≤ cap) : (Instr.sliceAt 28 (.slice a n cap) none (some (.int .i64 (m : Int))) none).run Tryd.prog w = .ok (.slice a m cap) w := by
  rw [run_sliceAt_slice (h := Tryd.underlying28), run_slice_h (ht := Tryd.underlying28) (h0 := by omega) (h2 := by omega)]
  have hz : (sizeOf (Tryd.prog.elem 28)).run Tryd.prog w = .ok 2 w := by kernel_rfl
  rw [hz]
  simp [Result.andThen, sliced, Addr.add]
set_option maxRecDepth 20000 in
theorem LkR.drop {w : World} {a : Option Addr} {n m cap : Nat} {l : List Lk} (h : LkR w (.slice a n cap) l) (hm : m ≤ n) :
    ∃ a', LkR w (.slice a' (n - m) (cap - m)) (l.drop m) ∧ ∀ w', (Instr.sliceAt 28 (.slice a n cap) (some (.int .i64 (m : Int))) none none).run Tryd.prog w' = .ok (.slice a' (n - m) (cap - m)) w' := by
  obtain ⟨a', cap', he, hle, hn, hc⟩ := h
  cases he
  refine ⟨if cap = m then a else a.map (·.add (m * 2)), ⟨_, _, by rw [List.length_drop], by rw [List.length_drop]; omega, fun ha => ?_, fun j hj => ?_⟩, fun w' => ?_⟩
  · split at ha
    · omega
    · cases a with
      | none => have := hn rfl; omega
      | some x => cases ha
  · rw [List.length_drop] at hj
    obtain ⟨g, o, ha, h1, h2⟩ := hc (m + j) (by omega)
    subst ha
    refine ⟨g, o + m * 2, ?_, ?_, ?_⟩
    · rw [if_neg (by omega)]; simp [add_plain']
    · rw [List.getElem_drop, show o + m * 2 + j * 2 = o + (m + j) * 2 by omega]; exact h1
    · rw [List.getElem_drop, show o + m * 2 + j * 2 + 1 = o + (m + j) * 2 + 1 by omega]; exact h2
  · rw [run_sliceAt_slice (h := Tryd.underlying28), run_slice_l (ht := Tryd.underlying28) (h0 := by omega) (h1 := by omega)]
    have hz : (sizeOf (Tryd.prog.elem 28)).run Tryd.prog w' = .ok 2 w' := by kernel_rfl
    rw [hz]
    simp [Result.andThen, sliced]

end Go.Proofs.YtagldlchamlpdabDoor

namespace Go.Proofs.YtagldlchamlpdabDoor
open Go.RowKit

theorem results_row_tmp {P : Program} {fn : Func} {p u : Tmp} {ty : TypeId} (h : fn.results = #[.cell p ty, .tmp u]) (tmps : Array Value) (w : World) (g : Nat) (t : TypeId) (cs : Array Value) (fr : Nat × Nat) (d : TypeDesc)
    (hp : tmps.getD p undef = .pointer (some ⟨g, 0, none⟩)) (hg : w.heap[g]? = some (.cells cs t fr)) (hu : P.underlying ty = some d) (hd : (match d with | .struct _ | .array _ _ => true | _ => false) = true) (hi : (P.info? ty).map (·.size) = some cs.size) :
    (results fn tmps).run P w = .ok (.tuple #[.agg cs, tmps.getD u undef]) w := by
  rw [results_cell_tmp h tmps P w, hp]
  simp [asAddr, run_loadVar_row w g t ty cs fr d hg hu hd hi, Result.andThen]
theorem results_cell_4 {fn : Func} {p q u v : Tmp} {t1 t2 : TypeId} (h : fn.results = #[.cell p t1, .tmp u, .cell q t2, .tmp v]) (tmps : Array Value) (P : Program) (w : World) :
    (results fn tmps).run P w =
      ((asAddr (tmps.getD p undef)).run P w).andThen fun a w₁ => ((loadVar t1 a).run P w₁).andThen fun x w₂ => ((asAddr (tmps.getD q undef)).run P w₂).andThen fun b w₃ => ((loadVar t2 b).run P w₃).andThen fun y w₄ => .ok (.tuple #[x, tmps.getD u undef, y, tmps.getD v undef]) w₄ := by
  simp only [results, h]
  simp [Sem.run_bind, Result.andThen]
theorem results_row_4 {P : Program} {fn : Func} {p q u v : Tmp} {ty t2 : TypeId} (h : fn.results = #[.cell p ty, .tmp u, .cell q t2, .tmp v]) (tmps : Array Value) (w : World) (g1 g2 : Nat) (t t' : TypeId) (cs cs2 : Array Value) (fr fr2 : Nat × Nat) (d d2 : TypeDesc)
    (hp : tmps.getD p undef = .pointer (some ⟨g1, 0, none⟩)) (hq : tmps.getD q undef = .pointer (some ⟨g2, 0, none⟩)) (hg : w.heap[g1]? = some (.cells cs t fr)) (hg2 : w.heap[g2]? = some (.cells cs2 t' fr2)) (hu : P.underlying ty = some d) (hu2 : P.underlying t2 = some d2) (hd : (match d with | .struct _ | .array _ _ => true | _ => false) = true) (hd2 : (match d2 with | .struct _ | .array _ _ => true | _ => false) = true)
    (hi : (P.info? ty).map (·.size) = some cs.size) (hi2 : (P.info? t2).map (·.size) = some cs2.size) :
    (results fn tmps).run P w = .ok (.tuple #[.agg cs, tmps.getD u undef, .agg cs2, tmps.getD v undef]) w := by
  rw [results_cell_4 h tmps P w, hp, hq]
  simp [asAddr, run_loadVar_row w g1 t ty cs fr d hg hu hd hi, run_loadVar_row w g2 t' t2 cs2 fr2 d2 hg2 hu2 hd2 hi2, Result.andThen]
theorem row_kept {w w1 : World} {cs : Array Value} {t : TypeId} (hb : Below (w.alloc (.cells cs t)).heap.size (w.alloc (.cells cs t)) w1) : w1.heap[w.heap.size]? = some (.cells cs t (0, 0)) := by
  rw [hb.block w.heap.size (by simp)]; exact heap_alloc_new w _
theorem set_two {w : World} {b : Nat} {x y : Value} {t : TypeId} (h : w.heap[b]? = some (.cells #[x, y] t (0, 0))) (x' y' : Value) :
    ((w.setCell ⟨b, 0, none⟩ x').setCell ⟨b, 1, none⟩ y').heap[b]? = some (.cells #[x', y'] t (0, 0)) := by
  rw [heap_setCell_same _ b 1 _ t _ (heap_setCell_same w b 0 _ t _ h)]
  rfl
theorem below_two {B : Nat} {w0 w : World} {b : Nat} {x y : Value} (h : Below B w0 w) (hb : B ≤ b) : Below B w0 ((w.setCell ⟨b, 0, none⟩ x).setCell ⟨b, 1, none⟩ y) := (h.setCell hb _).setCell hb _
/-- A block that is a whole row. -/
def RowAt (w : World) (b : Nat) (cs : Array Value) (t : TypeId) : Prop := w.heap[b]? = some (.cells cs t (0, 0))
theorem RowAt.cell {w : World} {b : Nat} {cs : Array Value} {t : TypeId} (h : RowAt w b cs t) (j : Nat) (hj : j < cs.size) : w.cell? ⟨b, j, none⟩ = some cs[j] := by
  rw [cell_of_row _ _ _ _ _ _ h]; simp [hj]
theorem RowAt.c0 {w : World} {b : Nat} {x y : Value} {t : TypeId} (h : RowAt w b #[x, y] t) : w.cell? ⟨b, 0, none⟩ = some x := h.cell 0 (by simp)
theorem RowAt.c1 {w : World} {b : Nat} {x y : Value} {t : TypeId} (h : RowAt w b #[x, y] t) : w.cell? ⟨b, 1, none⟩ = some y := h.cell 1 (by simp)
theorem RowAt.free {w : World} {b : Nat} {cs : Array Value} {t : TypeId} (h : RowAt w b cs t) (j : Nat) : w.frozen? ⟨b, j, none⟩ = false := frozen_of_row _ _ _ _ _ h
theorem RowAt.lt {w : World} {b : Nat} {cs : Array Value} {t : TypeId} (h : RowAt w b cs t) : b < w.heap.size := by
  rcases Nat.lt_or_ge b w.heap.size with h' | h'
  · exact h'
  · unfold RowAt at h; rw [Array.getElem?_eq_none h'] at h; cases h
theorem RowAt.below {w w' : World} {b : Nat} {cs : Array Value} {t : TypeId} (h : RowAt w b cs t) (hb : Below w.heap.size w w') : RowAt w' b cs t := by
  unfold RowAt; rw [hb.block b h.lt]; exact h
theorem RowAt.new (w : World) (cs : Array Value) (t : TypeId) : RowAt (w.alloc (.cells cs t)) w.heap.size cs t := heap_alloc_new w _
theorem RowAt.boxed {w : World} {b : Nat} {cs : Array Value} {t : TypeId} (h : RowAt w b cs t) : Boxed b cs.toList w := ⟨h.lt, fun j hj => by
  have := h.cell j (by simpa using hj)
  simpa using this⟩
theorem RowAt.two {w : World} {b : Nat} {x y : Value} {t : TypeId} (h : RowAt w b #[x, y] t) (x' y' : Value) : RowAt ((w.setCell ⟨b, 0, none⟩ x').setCell ⟨b, 1, none⟩ y') b #[x', y'] t := set_two h x' y'
theorem RowAt.other {w : World} {b g j : Nat} {cs : Array Value} {t : TypeId} (h : RowAt w b cs t) (hne : b ≠ g) (u : Value) : RowAt (w.setCell ⟨g, j, none⟩ u) b cs t := by
  unfold RowAt; rw [Below.heap_setCell _ _ _ _ (fun e => hne e)]; exact h
theorem LkR.cap {w : World} {a : Option Addr} {n c : Nat} {l : List Lk} (h : LkR w (.slice a n c) l) : l.length ≤ c := by
  obtain ⟨_, _, he, h, _⟩ := h; cases he; exact h
theorem lks_set (p : Lk) : ∀ (l : List Lk) (k : Nat), ((lks l).set (k * 2) (.string p.1)).set (k * 2 + 1) (.int .i64 p.2) = lks (l.set k p)
  | [], k => by simp [lks]
  | q :: l, 0 => by
    rw [List.set_cons_zero, lks_cons, lks_cons]
    rfl
  | q :: l, k + 1 => by
    rw [List.set_cons_succ, lks_cons, lks_cons, ← lks_set p l k, show (k + 1) * 2 = k * 2 + 1 + 1 by omega]
    simp only [List.set_cons_succ]
/-- What lies below B is as it was. -/
theorem LkO.under {w w' : World} {B base : Nat} {v : Value} {l : List Lk} (h : LkO w base v l) (hv : ∀ k, v.ownBlock = some k → k < B) (hb : Below B w w') : LkO w' base v l := by
  refine ⟨h.1, ?_⟩
  rcases h.2 with h' | ⟨g, cap, cur, h', h1, h2, hr⟩
  · exact .inl h'
  · refine .inr ⟨g, cap, cur, h', h1, ?_, hr⟩
    rw [hb.block g (hv g (by rw [h']; rfl))]; exact h2
/-- A store into another block. -/
theorem LkO.put {w : World} {base g j : Nat} {v : Value} {l : List Lk} (h : LkO w base v l) (hv : v.ownBlock ≠ some g) (u : Value) : LkO (w.setCell ⟨g, j, none⟩ u) base v l := by
  refine ⟨h.1, ?_⟩
  rcases h.2 with h' | ⟨g', cap, cur, h', h1, h2, hr⟩
  · exact .inl h'
  · refine .inr ⟨g', cap, cur, h', h1, ?_, hr⟩
    rw [Below.heap_setCell _ _ _ _ (fun e => hv (by have : g' = g := e; rw [h', this]; rfl))]; exact h2
theorem LkO.cnt {w : World} {base n cap : Nat} {a : Option Addr} {l : List Lk} (h : LkO w base (.slice a n cap) l) : n = l.length := by
  obtain ⟨a', c', he⟩ := h.form
  simp only [Value.slice.injEq] at he
  exact he.2.1
/-- A pair is stored. -/
theorem LkO.wrote {w : World} {base g n cap : Nat} {l : List Lk} (h : LkO w base (.slice (some ⟨g, 0, none⟩) n cap) l) (k : Nat) (p : Lk) :
    LkO ((w.setCell ⟨g, k * 2, none⟩ (.string p.1)).setCell ⟨g, k * 2 + 1, none⟩ (.int .i64 p.2)) base (.slice (some ⟨g, 0, none⟩) n cap) (l.set k p) := by
  obtain rfl := h.cnt
  unfold LkO at h
  have := (World.ownsRow.stored (World.ownsRow.stored h (k * 2) (.string p.1)).1 (k * 2 + 1) (.int .i64 p.2)).1
  rw [lks_set] at this
  unfold LkO; rw [List.length_set]; exact this
theorem Boxed.put {b g j : Nat} {cs : List Value} {w : World} (h : Boxed b cs w) (hne : b ≠ g) (u : Value) : Boxed b cs (w.setCell ⟨g, j, none⟩ u) :=
  ⟨by simpa [World.setCell] using h.1, fun i hi => (World.cell?_of_block (a := ⟨b, i, none⟩) (Below.heap_setCell _ _ _ _ (fun e => hne e))).trans (h.2 i hi)⟩
/-- The cells of an owned list, ahead of a store. -/
theorem LkO.spot {w : World} {base g n cap : Nat} {l : List Lk} (h : LkO w base (.slice (some ⟨g, 0, none⟩) n cap) l) (k : Nat) (hk : k < l.length) :
    (∃ u, w.cell? ⟨g, k * 2, none⟩ = some u) ∧ (∃ u, w.cell? ⟨g, k * 2 + 1, none⟩ = some u) ∧ w.frozen? ⟨g, k * 2, none⟩ = false ∧ w.frozen? ⟨g, k * 2 + 1, none⟩ = false := by
  obtain rfl := h.cnt
  unfold LkO at h
  have hq : ∀ j, j < l.length * 2 → ∃ u, w.cell? ⟨g, j, none⟩ = some u := fun j hj => by
    rw [World.ownsRow.cellAt h j hj]
    exact ⟨_, List.getElem?_eq_getElem (by rw [lks_length]; exact hj)⟩
  exact ⟨hq _ (by omega), hq _ (by omega), World.ownsRow.frozenAt h _, World.ownsRow.frozenAt h _⟩
theorem LkO.has {w : World} {base : Nat} {v : Value} {l : List Lk} (h : LkO w base v l) (hl : 0 < l.length) : ∃ g c, v = .slice (some ⟨g, 0, none⟩) l.length c ∧ base ≤ g ∧ g < w.heap.size ∧ l.length ≤ c := by
  rcases h.2 with ⟨_, h0⟩ | ⟨g, cap, cur, rfl, h1, h2, h3, _⟩
  · omega
  · exact ⟨g, cap, rfl, h1, (h.blk g rfl).2, h3⟩

theorem LkR.spot {w : World} {a : Option Addr} {n c : Nat} {l : List Lk} (h : LkR w (.slice a n c) l) (j : Nat) (hj : j < l.length) :
    ∃ g o, a = .some ⟨g, o, none⟩ ∧ w.cell? ⟨g, o + j * 2, none⟩ = .some (.string l[j].1) ∧ w.cell? ⟨g, o + j * 2 + 1, none⟩ = .some (.int .i64 l[j].2) := by
  obtain ⟨a', c', he, _, _, hc⟩ := h
  cases he
  exact hc j hj
theorem undrewB {a b : World} (h : Below a.drew.heap.size a.drew b) : Below a.heap.size a b := ⟨h.os, h.tape, h.output, h.size, h.block⟩

theorem LkO.drew {w : World} {base : Nat} {v : Value} {l : List Lk} (h : LkO w base v l) : LkO w.drew base v l := h
theorem LkR.drew {w : World} {v : Value} {l : List Lk} (h : LkR w v l) : LkR w.drew v l := h
theorem RowAt.drew {w : World} {b : Nat} {cs : Array Value} {t : TypeId} (h : RowAt w b cs t) : RowAt w.drew b cs t := h
theorem below_drewB {B : Nat} {a w : World} (h : Below B a w) : Below B a w.drew := ⟨h.os, h.tape, h.output, h.size, h.block⟩
/-- A list of the call's own, behind a store below its beginning. -/
theorem LkO.put2 {w : World} {base g : Nat} {v : Value} {l : List Lk} (h : LkO w base v l) (hg : g < base) (x y : Value) : LkO ((w.setCell ⟨g, 0, none⟩ x).setCell ⟨g, 1, none⟩ y) base v l := by
  have hv : v.ownBlock ≠ some g := fun e => by have := (h.blk g e).1; omega
  exact (h.put hv x).put hv y

end Go.Proofs.YtagldlchamlpdabDoor
