import Derived.Test.YtageokjobbjddaaGreatDoorPFault
import Derived.Test.YtageokjobbjddaaGreatDoorGRF
import Derived.Lib.AppendStr
import Derived.Lib.BufferKept
import Derived.Shelf.Strconv.Clone
namespace Go.Proofs.YtageokjobbjddaaGreatDoor
open Go.RowKit

/-! The program's writer: bytes that grow. -/
def Byt (w : World) (base : Nat) (v : Value) (o : List UInt8) : Prop := w.ownsRow base 5 1 v o.length (u8s o)
theorem Byt.form {w : World} {base : Nat} {v : Value} {o : List UInt8} (h : Byt w base v o) : ∃ a c, v = .slice a o.length c := owns_form h
theorem Byt.keep {w w' : World} {base : Nat} {v : Value} {o : List UInt8} (h : Byt w base v o) (hb : Below w.heap.size w w') : Byt w' base v o := owns_keep h hb
theorem Byt.nil (w : World) (base : Nat) : Byt w base (.slice none 0 0) [] := World.ownsRow_nil _ _ _ _
theorem strCells_eq (s : ByteArray) : Lib.strCells s = u8s s.data.toList := by simp [Lib.strCells, u8s]
theorem grown_below {w w' : World} {base n : Nat} {v : Value} {xs : List Value} (how : w.ownsRow base 5 1 v n xs) (h3 : w.grownBy w' v.ownBlock) (hbase : base ≤ w.heap.size) : Below base w w' := ⟨h3.os, h3.tape, h3.output, h3.size, fun k hk => h3.block k (by omega) (fun e => by have := (owns_blk how k e.symm).1; omega)⟩
/-- What a writer leaves as it was: all that is below base, and all blocks that are not bytes. -/
structure Gr (base : Nat) (w w' : World) : Prop where
  bel : Below base w w'
  oth : Lib.OthersKept 5 none w w'
theorem Gr.size {base : Nat} {w w' : World} (h : Gr base w w') : w.heap.size ≤ w'.heap.size := h.bel.size
theorem Gr.trans {base : Nat} {a b c : World} (h : Gr base a b) (k : Gr base b c) : Gr base a c := ⟨h.bel.trans k.bel, h.oth.trans k.oth⟩
theorem Gr.of {base : Nat} {w w' : World} (h : Below w.heap.size w w') (hb : base ≤ w.heap.size) : Gr base w w' := ⟨h.mono hb, (Lib.OthersKept.refl 5 none w).below h⟩
theorem Gr.drew {base : Nat} {a w : World} (h : Gr base a w) : Gr base a w.drew := ⟨h.bel.drew, h.oth.drew⟩
theorem Gr.row {base : Nat} {w w' : World} {b : Nat} {cs : Array Value} {t : TypeId} (h : Gr base w w') (hr : RowAt w b cs t) (ht : t ≠ 5) : RowAt w' b cs t := h.oth b _ hr (by simp) (fun c fz e => by injection e with _ e2 _; exact ht e2)
theorem grown_gr {w w' : World} {base n : Nat} {v : Value} {xs : List Value} (how : w.ownsRow base 5 1 v n xs) (h3 : w.grownBy w' v.ownBlock) (hbase : base ≤ w.heap.size) : Gr base w w' := by
  refine ⟨grown_below how h3 hbase, fun k o hk _ ho => ?_⟩
  have hlt : k < w.heap.size := (Array.getElem?_eq_some_iff.1 hk).1
  rw [h3.block k hlt (fun e => ?_)]
  · exact hk
  · rcases how.2 with ⟨h', _⟩ | ⟨g, cap, cur, h', _, hg, _⟩
    · rw [h'] at e; simp [Value.ownBlock] at e
    · rw [h'] at e
      have e2 : k = g := by simpa [Value.ownBlock] using e
      subst e2
      rw [hg] at hk
      exact ho cur (0, 0) (Option.some.inj hk).symm
theorem wpList_append_run2 {ops : Array Oper} {rest : List Oper} {o : Oper} {a : Act} {w : World} {Q : Exit → Act → World → Prop} (t u : TypeId) (hgd : o.guard = none) (d x : Operand)
    (ho : o.op = .call { callee := .builtin .append, args := #[d, x], argTypes := #[t, u] }) (hty : o.type = t) (vd vx : Value) (hd : a.eval d = vd) (hx : a.eval x = vx) (v : Value) (w' : World)
    (hrun : (Builtin.append_ #[t, u] t #[vd, vx]).run Tryz.prog w = .ok v w') (h : wpList Tryz.prog ops Q rest (a.put o.dst v) w') : wpList Tryz.prog ops Q (o :: rest) a w :=
  wpList_plain hgd fun _ hK => by
    unfold Oper.wp
    simp [execOp, ho, resolve, invoke, builtin, hd, hx, hty, hrun, Result.andThen]
    exact hK _ _ h
/-- A string behind them, and what else is as it was. -/
theorem byt_strg {w : World} {base : Nat} {v : Value} {o : List UInt8} (h : Byt w base v o) (s : ByteArray) (t : List UInt8) (ht : s.data.toList = t) (hb : o.length + t.length ≤ 100000000000000) (hbase : base ≤ w.heap.size) :
    ∃ a c w', (Builtin.append_ #[48, 9] 48 #[v, .string s]).run Tryz.prog w = .ok (.slice a (o ++ t).length c) w' ∧ Byt w' base (.slice a (o ++ t).length c) (o ++ t) ∧ Gr base w w' ∧ w.grownBy w' v.ownBlock := by
  subst ht
  have hsz : s.data.toList.length = s.size := by simp
  obtain ⟨i0, hi, hz, hsz', hby⟩ := info_parts Tryz.info5
  obtain ⟨v', w', hr, ho, hg, _⟩ := Lib.run_append_own_string (P := Tryz.prog) w base 48 9 48 5 i0 Tryz.underlying48 Tryz.underlying9 hi hz hsz' hby v o.length _ h s (by unfold maxLen; omega) (by omega) hbase
  have hl : o.length + s.size = (o ++ s.data.toList).length := by rw [List.length_append, hsz]
  rw [hl] at ho
  have hf : ∃ a' c', v' = .slice a' (o ++ s.data.toList).length c' := by
    rcases ho.2 with ⟨rfl, h0⟩ | ⟨g, cap, cur, rfl, _⟩
    · exact ⟨none, 0, by rw [h0]⟩
    · exact ⟨_, _, rfl⟩
  obtain ⟨a', c', rfl⟩ := hf
  refine ⟨a', c', w', hr, ?_, grown_gr h hg hbase, hg⟩
  unfold Byt
  rw [u8s_append, ← strCells_eq]
  exact ho
/-- A string behind them. -/
theorem byt_str {w : World} {base : Nat} {v : Value} {o : List UInt8} (h : Byt w base v o) (s : ByteArray) (t : List UInt8) (ht : s.data.toList = t) (hb : o.length + t.length ≤ 100000000000000) (hbase : base ≤ w.heap.size) :
    ∃ a c w', (Builtin.append_ #[48, 9] 48 #[v, .string s]).run Tryz.prog w = .ok (.slice a (o ++ t).length c) w' ∧ Byt w' base (.slice a (o ++ t).length c) (o ++ t) ∧ Gr base w w' := by
  obtain ⟨a, c, w', h1, h2, h3, _⟩ := byt_strg h s t ht hb hbase
  exact ⟨a, c, w', h1, h2, h3⟩
/-- A row of a later block stays. -/
theorem row_grown {w V w' : World} {base b : Nat} {v : Value} {o : List UInt8} {cs : Array Value} {t : TypeId} (h : Byt w base v o) (hb : RowAt V b cs t) (hg : V.grownBy w' v.ownBlock) (hbn : w.heap.size ≤ b) : RowAt w' b cs t := by
  unfold RowAt
  rw [hg.block b hb.lt (fun e => by have := (owns_blk h b e.symm).2; omega)]
  exact hb
/-- Some bytes behind them. -/
theorem byt_push {w : World} {base : Nat} {v : Value} {o : List UInt8} (h : Byt w base v o) (bs : List UInt8) (cs : Array Value) (m : Nat) (hcs : cs = (u8s bs).toArray) (hm : bs.length = m) (hm0 : 0 < m) (hb : o.length + m ≤ 100000000000000) (hbase : base ≤ w.heap.size) (H : Nat) (hH : H = w.heap.size) :
    ∃ a c w', (Builtin.append_ #[48, 48] 48 #[v, .slice (some ⟨H, 0, none⟩) m m]).run Tryz.prog (w.alloc (.cells cs 5)) = .ok (.slice a (o ++ bs).length c) w' ∧ Byt w' base (.slice a (o ++ bs).length c) (o ++ bs) ∧ Gr base w w' := by
  subst hcs hH
  obtain ⟨i0, hi, hz0, hz1, hz2⟩ := info_parts Tryz.info5
  have hs : (w.alloc (.cells (u8s bs).toArray 5)).heap.size = w.heap.size + 1 := by simp
  have h2 := h.keep (below_new w (.cells (u8s bs).toArray 5))
  obtain ⟨g, cap, w', hr, h3, h4, _, _⟩ := run_append_lies (P := Tryz.prog) (w.alloc (.cells (u8s bs).toArray 5)) 48 48 base 5 i0 _ 1 1 Tryz.underlying48 hi hz0 hz1 hz2 rfl (by decide) v o.length _ h2 ⟨w.heap.size, 0, none⟩ m m (u8s bs) (by rw [u8s_length, hm, Nat.mul_one]) (World.news_of_block (heap_alloc_new w _))
    (by intro x hx; simp only [u8s, List.mem_map] at hx; obtain ⟨c, _, rfl⟩ := hx; rfl) hm0 (by unfold maxLen; omega) (by omega) (by omega) _ rfl
  have hl : o.length + m = (o ++ bs).length := by rw [List.length_append, hm]
  rw [hl] at hr h3
  refine ⟨_, cap, w', hr, ?_, ?_⟩
  · unfold Byt
    rw [u8s_append]
    exact h3
  · exact (Gr.of (below_new w (.cells (u8s bs).toArray 5)) hbase).trans (grown_gr h2 h4 (by omega))
def inwB (c : UInt8) : Bool := letterB c || digitB c
theorem wfrom_false : ∀ (l : List UInt8), decide (wfrom false l = l.length) = l.all inwB
  | [] => rfl
  | c :: r => by
    have ih := wfrom_false r
    rw [wfrom, List.all_cons, ← ih]
    simp only [Bool.not_false, Bool.true_and, inwB, List.length_cons]
    by_cases h : (letterB c || digitB c) = true
    · rw [if_pos h, h]
      simp
    · have h' : (letterB c || digitB c) = false := by simpa using h
      rw [if_neg h, h']
      simp
theorem plain_first (s : ByteArray) (h0 : 0 < s.size) : plainB s = (letterB s[0] && (s.data.toList.all inwB && !resB s)) := by
  have hne : s ≠ ⟨#[]⟩ := fun e => by rw [e] at h0; exact absurd h0 (by decide)
  have hl : s.data.toList = s[0] :: s.data.toList.drop 1 := by
    have := q_drop s 0 h0
    rwa [List.drop_zero] at this
  unfold plainB
  rw [decide_eq_true hne, Bool.true_and, ← q_len]
  have e1 : decide (wfrom true s.data.toList = s.data.toList.length) = (letterB s[0] && s.data.toList.all inwB) := by
    rw [hl, wfrom, List.all_cons, ← wfrom_false]
    simp only [Bool.not_true, Bool.false_and, Bool.or_false, List.length_cons, inwB]
    by_cases h : letterB s[0] = true
    · rw [if_pos h, h]; simp
    · have h' : letterB s[0] = false := by simpa using h
      rw [if_neg h, h']; simp
  rw [e1, Bool.and_assoc]
set_option maxHeartbeats 2000000 in
set_option maxRecDepth 100000 in
theorem pdigit_any (c : UInt8) (w : World) : Calls Tryz.prog 66 #[.int .u8 (c.toNat : Int)] w fun e w' => e = .returned (.bool (digitB c)) ∧ w = w' := by
  by_cases h1 : 48 ≤ c.toNat
  · have h1I : (48 : Int) ≤ (c.toNat : Int) := by omega
    by_cases h2 : c.toNat ≤ 57
    · have h2I : (c.toNat : Int) ≤ 57 := by omega
      have HE : Hid (digitB c = true) := by show _ = _; simp [digitB]; omega
      go_enter Tryz.func66, Tryz.ntmps66
      go_wp2
      go_ret
      exact ⟨by rw [HE.out]; rfl, rfl⟩
    · have h2I : ¬ (c.toNat : Int) ≤ 57 := by omega
      have HE : Hid (digitB c = false) := by show _ = _; simp [digitB]; omega
      go_enter Tryz.func66, Tryz.ntmps66
      go_wp2
      go_ret
      exact ⟨by rw [HE.out]; rfl, rfl⟩
  · have h1I : ¬ (48 : Int) ≤ (c.toNat : Int) := by omega
    have HE : Hid (digitB c = false) := by show _ = _; simp [digitB]; omega
    go_enter Tryz.func66, Tryz.ntmps66
    go_wp2
    go_ret
    exact ⟨by rw [HE.out]; rfl, rfl⟩
end Go.Proofs.YtageokjobbjddaaGreatDoor

namespace Go.Proofs
open Go.Shelf
def Tryz.lays316_ren : Go.Shelf.Ren := ⟨fun | 316 => 114 | n => n, fun | 5 => 5 | 9 => 9 | 3 => 3 | 4 => 4 | 37 => 48 | 0 => 0 | 127 => 159 | n => n, fun | n => n⟩
theorem Tryz.lays316 : Go.Proofs.LaysM.n316 Tryz.prog Tryz.lays316_ren := {
  mixed := by kernel_rfl
  f316 := Tryz.func114.trans (congrArg some (by kernel_rfl))
  t0 := Tryz.underlying0
  a0 := Tryz.isAgg0
  z0 := Tryz.sizeOf0
  v0 := Tryz.zeroValue0
  t3 := Tryz.underlying3
  a3 := Tryz.isAgg3
  z3 := Tryz.sizeOf3
  v3 := Tryz.zeroValue3
  t4 := Tryz.underlying4
  a4 := Tryz.isAgg4
  z4 := Tryz.sizeOf4
  v4 := Tryz.zeroValue4
  t5 := Tryz.underlying5
  a5 := Tryz.isAgg5
  z5 := Tryz.sizeOf5
  v5 := Tryz.zeroValue5
  t9 := Tryz.underlying9
  a9 := Tryz.isAgg9
  z9 := Tryz.sizeOf9
  v9 := Tryz.zeroValue9
  t37 := Tryz.underlying48
  a37 := Tryz.isAgg48
  z37 := Tryz.sizeOf48
  v37 := Tryz.zeroValue48
  t127 := Tryz.underlying159
  a127 := Tryz.isAgg159
  z127 := Tryz.sizeOf159
  v127 := Tryz.zeroValue159
  i0 := by kernel_rfl
  i3 := by kernel_rfl
  i4 := by kernel_rfl
  i5 := by kernel_rfl
  i9 := by kernel_rfl
  i37 := by kernel_rfl
  i127 := by kernel_rfl }
namespace YtageokjobbjddaaGreatDoor
open Go.RowKit
theorem slclone_any (s : ByteArray) (w : World) (h : s.size ≤ 281474976710656) : Calls Tryz.prog 114 #[.string s] w fun e w' => e = .returned (.string s) ∧ Below w.heap.size w w' := Any.stringslite_Clone Tryz.lays316 s w h
theorem sclone_any (s : ByteArray) (w : World) (h : s.size ≤ 281474976710656) : Calls Tryz.prog 101 #[.string s] w fun e w' => e = .returned (.string s) ∧ Below w.heap.size w w' := by
  go_enter Tryz.func101, Tryz.ntmps101
  go_wp2_with fail
  refine (slclone_any s w h).mono ?_
  rintro e w1 ⟨rfl, hb⟩
  go_wp2_with fail
  go_ret
  exact ⟨rfl, hb⟩
end YtageokjobbjddaaGreatDoor
end Go.Proofs
