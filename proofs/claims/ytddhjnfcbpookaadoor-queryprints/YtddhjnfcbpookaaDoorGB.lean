import Derived.Test.YtddhjnfcbpookaaDoorPFault
import Derived.Test.YtddhjnfcbpookaaDoorGD
import Derived.Lib.AppendStr
import Derived.Lib.BufferKept
import Derived.Deep.RegionLaw
namespace Go.Proofs.YtddhjnfcbpookaaDoor
open Go.RowKit

/-! The program's writer: bytes that grow. -/
def Byt (w : World) (base : Nat) (v : Value) (o : List UInt8) : Prop := w.ownsRow base 5 1 v o.length (u8s o)
theorem Byt.form {w : World} {base : Nat} {v : Value} {o : List UInt8} (h : Byt w base v o) : ∃ a c, v = .slice a o.length c := owns_form h
theorem Byt.keep {w w' : World} {base : Nat} {v : Value} {o : List UInt8} (h : Byt w base v o) (hb : Below w.heap.size w w') : Byt w' base v o := owns_keep h hb
theorem Byt.nil (w : World) (base : Nat) : Byt w base (.slice none 0 0) [] := World.ownsRow_nil _ _ _ _
theorem strCells_eq (s : ByteArray) : Lib.strCells s = u8s s.data.toList := by simp [Lib.strCells, u8s]
theorem grown_below {w w' : World} {base n : Nat} {v : Value} {xs : List Value} (how : w.ownsRow base 5 1 v n xs) (h3 : w.grownBy w' v.ownBlock) (hbase : base ≤ w.heap.size) : Below base w w' := ⟨h3.os, h3.tape, h3.output, h3.size, fun k hk => h3.block k (by omega) (fun e => by have := (owns_blk how k e.symm).1; omega)⟩
/-- What a writer leaves as it was: all that is below base, and all blocks that are not bytes. -/
structure Gr (base : Nat) (w w' : World) : Prop where
  bel : Below base w w'
  oth : Lib.OthersKept 5 none w w'
theorem Gr.size {base : Nat} {w w' : World} (h : Gr base w w') : w.heap.size ≤ w'.heap.size := h.bel.size
theorem Gr.trans {base : Nat} {a b c : World} (h : Gr base a b) (k : Gr base b c) : Gr base a c := ⟨h.bel.trans k.bel, h.oth.trans k.oth⟩
theorem Gr.of {base : Nat} {w w' : World} (h : Below w.heap.size w w') (hb : base ≤ w.heap.size) : Gr base w w' := ⟨h.mono hb, (Lib.OthersKept.refl 5 none w).below h⟩
theorem Gr.drew {base : Nat} {a w : World} (h : Gr base a w) : Gr base a w.drew := ⟨h.bel.drew, h.oth.drew⟩
theorem Gr.row {base : Nat} {w w' : World} {b : Nat} {cs : Array Value} {t : TypeId} (h : Gr base w w') (hr : RowAt w b cs t) (ht : t ≠ 5) : RowAt w' b cs t := h.oth b _ hr (by simp) (fun c fz e => by injection e with _ e2 _; exact ht e2)
theorem grown_gr {w w' : World} {base n : Nat} {v : Value} {xs : List Value} (how : w.ownsRow base 5 1 v n xs) (h3 : w.grownBy w' v.ownBlock) (hbase : base ≤ w.heap.size) : Gr base w w' := by
  refine ⟨grown_below how h3 hbase, fun k o hk _ ho => ?_⟩
  have hlt : k < w.heap.size := (Array.getElem?_eq_some_iff.1 hk).1
  rw [h3.block k hlt (fun e => ?_)]
  · exact hk
  · rcases how.2 with ⟨h', _⟩ | ⟨g, cap, cur, h', _, hg, _⟩
    · rw [h'] at e; simp [Value.ownBlock] at e
    · rw [h'] at e
      have e2 : k = g := by simpa [Value.ownBlock] using e
      subst e2
      rw [hg] at hk
      exact ho cur (0, 0) (Option.some.inj hk).symm
theorem wpList_append_run2 {ops : Array Oper} {rest : List Oper} {o : Oper} {a : Act} {w : World} {Q : Exit → Act → World → Prop} (t u : TypeId) (hgd : o.guard = none) (d x : Operand)
    (ho : o.op = .call { callee := .builtin .append, args := #[d, x], argTypes := #[t, u] }) (hty : o.type = t) (vd vx : Value) (hd : a.eval d = vd) (hx : a.eval x = vx) (v : Value) (w' : World)
    (hrun : (Builtin.append_ #[t, u] t #[vd, vx]).run Tryd.prog w = .ok v w') (h : wpList Tryd.prog ops Q rest (a.put o.dst v) w') : wpList Tryd.prog ops Q (o :: rest) a w :=
  wpList_plain hgd fun _ hK => by
    unfold Oper.wp
    simp [execOp, ho, resolve, invoke, builtin, hd, hx, hty, hrun, Result.andThen]
    exact hK _ _ h
/-- A string behind them, and what else is as it was. -/
theorem byt_strg {w : World} {base : Nat} {v : Value} {o : List UInt8} (h : Byt w base v o) (s : ByteArray) (t : List UInt8) (ht : s.data.toList = t) (hb : o.length + t.length ≤ 100000000000000) (hbase : base ≤ w.heap.size) :
    ∃ a c w', (Builtin.append_ #[79, 9] 79 #[v, .string s]).run Tryd.prog w = .ok (.slice a (o ++ t).length c) w' ∧ Byt w' base (.slice a (o ++ t).length c) (o ++ t) ∧ Gr base w w' ∧ w.grownBy w' v.ownBlock := by
  subst ht
  have hsz : s.data.toList.length = s.size := by simp
  obtain ⟨i0, hi, hz, hsz', hby⟩ := info_parts Tryd.info5
  obtain ⟨v', w', hr, ho, hg, _⟩ := Lib.run_append_own_string (P := Tryd.prog) w base 79 9 79 5 i0 Tryd.underlying79 Tryd.underlying9 hi hz hsz' hby v o.length _ h s (by unfold maxLen; omega) (by omega) hbase
  have hl : o.length + s.size = (o ++ s.data.toList).length := by rw [List.length_append, hsz]
  rw [hl] at ho
  have hf : ∃ a' c', v' = .slice a' (o ++ s.data.toList).length c' := by
    rcases ho.2 with ⟨rfl, h0⟩ | ⟨g, cap, cur, rfl, _⟩
    · exact ⟨none, 0, by rw [h0]⟩
    · exact ⟨_, _, rfl⟩
  obtain ⟨a', c', rfl⟩ := hf
  refine ⟨a', c', w', hr, ?_, grown_gr h hg hbase, hg⟩
  unfold Byt
  rw [u8s_append, ← strCells_eq]
  exact ho
/-- A string behind them. -/
theorem byt_str {w : World} {base : Nat} {v : Value} {o : List UInt8} (h : Byt w base v o) (s : ByteArray) (t : List UInt8) (ht : s.data.toList = t) (hb : o.length + t.length ≤ 100000000000000) (hbase : base ≤ w.heap.size) :
    ∃ a c w', (Builtin.append_ #[79, 9] 79 #[v, .string s]).run Tryd.prog w = .ok (.slice a (o ++ t).length c) w' ∧ Byt w' base (.slice a (o ++ t).length c) (o ++ t) ∧ Gr base w w' := by
  obtain ⟨a, c, w', h1, h2, h3, _⟩ := byt_strg h s t ht hb hbase
  exact ⟨a, c, w', h1, h2, h3⟩
/-- A row of a later block stays. -/
theorem row_grown {w V w' : World} {base b : Nat} {v : Value} {o : List UInt8} {cs : Array Value} {t : TypeId} (h : Byt w base v o) (hb : RowAt V b cs t) (hg : V.grownBy w' v.ownBlock) (hbn : w.heap.size ≤ b) : RowAt w' b cs t := by
  unfold RowAt
  rw [hg.block b hb.lt (fun e => by have := (owns_blk h b e.symm).2; omega)]
  exact hb
/-- Some bytes behind them. -/
theorem byt_push {w : World} {base : Nat} {v : Value} {o : List UInt8} (h : Byt w base v o) (bs : List UInt8) (cs : Array Value) (m : Nat) (hcs : cs = (u8s bs).toArray) (hm : bs.length = m) (hm0 : 0 < m) (hb : o.length + m ≤ 100000000000000) (hbase : base ≤ w.heap.size) (H : Nat) (hH : H = w.heap.size) :
    ∃ a c w', (Builtin.append_ #[79, 79] 79 #[v, .slice (some ⟨H, 0, none⟩) m m]).run Tryd.prog (w.alloc (.cells cs 5)) = .ok (.slice a (o ++ bs).length c) w' ∧ Byt w' base (.slice a (o ++ bs).length c) (o ++ bs) ∧ Gr base w w' := by
  subst hcs hH
  obtain ⟨i0, hi, hz0, hz1, hz2⟩ := info_parts Tryd.info5
  have hs : (w.alloc (.cells (u8s bs).toArray 5)).heap.size = w.heap.size + 1 := by simp
  have h2 := h.keep (below_new w (.cells (u8s bs).toArray 5))
  obtain ⟨g, cap, w', hr, h3, h4, _, _⟩ := run_append_lies (P := Tryd.prog) (w.alloc (.cells (u8s bs).toArray 5)) 79 79 base 5 i0 _ 1 1 Tryd.underlying79 hi hz0 hz1 hz2 rfl (by decide) v o.length _ h2 ⟨w.heap.size, 0, none⟩ m m (u8s bs) (by rw [u8s_length, hm, Nat.mul_one]) (World.news_of_block (heap_alloc_new w _))
    (by intro x hx; simp only [u8s, List.mem_map] at hx; obtain ⟨c, _, rfl⟩ := hx; rfl) hm0 (by unfold maxLen; omega) (by omega) (by omega) _ rfl
  have hl : o.length + m = (o ++ bs).length := by rw [List.length_append, hm]
  rw [hl] at hr h3
  refine ⟨_, cap, w', hr, ?_, ?_⟩
  · unfold Byt
    rw [u8s_append]
    exact h3
  · exact (Gr.of (below_new w (.cells (u8s bs).toArray 5)) hbase).trans (grown_gr h2 h4 (by omega))
def inwB (c : UInt8) : Bool := letterB c || digitB c
theorem wfrom_false : ∀ (l : List UInt8), decide (wfrom false l = l.length) = l.all inwB
  | [] => rfl
  | c :: r => by
    have ih := wfrom_false r
    rw [wfrom, List.all_cons, ← ih]
    simp only [Bool.not_false, Bool.true_and, inwB, List.length_cons]
    by_cases h : (letterB c || digitB c) = true
    · rw [if_pos h, h]
      simp
    · have h' : (letterB c || digitB c) = false := by simpa using h
      rw [if_neg h, h']
      simp
theorem plain_first (s : ByteArray) (h0 : 0 < s.size) : plainB s = (letterB s[0] && (s.data.toList.all inwB && !resB s)) := by
  have hne : s ≠ ⟨#[]⟩ := fun e => by rw [e] at h0; exact absurd h0 (by decide)
  have hl : s.data.toList = s[0] :: s.data.toList.drop 1 := by
    have := q_drop s 0 h0
    rwa [List.drop_zero] at this
  unfold plainB
  rw [decide_eq_true hne, Bool.true_and, ← q_len]
  have e1 : decide (wfrom true s.data.toList = s.data.toList.length) = (letterB s[0] && s.data.toList.all inwB) := by
    rw [hl, wfrom, List.all_cons, ← wfrom_false]
    simp only [Bool.not_true, Bool.false_and, Bool.or_false, List.length_cons, inwB]
    by_cases h : letterB s[0] = true
    · rw [if_pos h, h]; simp
    · have h' : letterB s[0] = false := by simpa using h
      rw [if_neg h, h']; simp
  rw [e1, Bool.and_assoc]
set_option maxHeartbeats 2000000 in
set_option maxRecDepth 100000 in
theorem pdigit_any (c : UInt8) (w : World) : Calls Tryd.prog 95 #[.int .u8 (c.toNat : Int)] w fun e w' => e = .returned (.bool (digitB c)) ∧ w = w' := by
  by_cases h1 : 48 ≤ c.toNat
  · have h1I : (48 : Int) ≤ (c.toNat : Int) := by omega
    by_cases h2 : c.toNat ≤ 57
    · have h2I : (c.toNat : Int) ≤ 57 := by omega
      have HE : Hid (digitB c = true) := by show _ = _; simp [digitB]; omega
      go_enter Tryd.func95, Tryd.ntmps95
      go_wp2
      go_ret
      exact ⟨by rw [HE.out]; rfl, rfl⟩
    · have h2I : ¬ (c.toNat : Int) ≤ 57 := by omega
      have HE : Hid (digitB c = false) := by show _ = _; simp [digitB]; omega
      go_enter Tryd.func95, Tryd.ntmps95
      go_wp2
      go_ret
      exact ⟨by rw [HE.out]; rfl, rfl⟩
  · have h1I : ¬ (48 : Int) ≤ (c.toNat : Int) := by omega
    have HE : Hid (digitB c = false) := by show _ = _; simp [digitB]; omega
    go_enter Tryd.func95, Tryd.ntmps95
    go_wp2
    go_ret
    exact ⟨by rw [HE.out]; rfl, rfl⟩
end Go.Proofs.YtddhjnfcbpookaaDoor

namespace Go.Proofs.YtddhjnfcbpookaaDoor
open Go.RowKit

set_option maxHeartbeats 2000000 in
theorem pbeg_any (c : UInt8) (w : World) : Calls Tryd.prog 79 #[.int .u8 (c.toNat : Int)] w fun e w' => e = .returned (.bool (letterB c)) ∧ w = w' := by
  obtain ⟨r, hr⟩ : ∃ r, r = letterB c := ⟨_, rfl⟩
  rw [← hr]
  unfold letterB at hr
  have HR := hide hr
  clear hr
  obtain ⟨n, hn⟩ : ∃ n, n = c.toNat := ⟨_, rfl⟩
  rw [← hn] at HR ⊢
  clear hn
  by_cases h1 : 97 ≤ n
  · have h1I : (97 : Int) ≤ (n : Int) := by omega
    by_cases h2 : n ≤ 122
    · have h2I : (n : Int) ≤ 122 := by omega
      have HE : Hid (r = true) := by show _ = _; rw [HR.out]; simp [h1, h2]
      clear HR
      go_enter Tryd.func79, Tryd.ntmps79
      go_wp2
      go_ret
      exact ⟨by rw [HE.out]; rfl, rfl⟩
    · have h2I : ¬ (n : Int) ≤ 122 := by omega
      have h3I : (65 : Int) ≤ (n : Int) := by omega
      have h4I : ¬ (n : Int) ≤ 90 := by omega
      have h5I : ((n : Int) == 95) = false := by rw [beq_eq_false_iff_ne]; omega
      have HE : Hid (r = false) := by show _ = _; rw [HR.out, decide_eq_false_iff_not]; omega
      clear HR
      go_enter Tryd.func79, Tryd.ntmps79
      go_wp2
      go_ret
      exact ⟨by rw [HE.out]; rfl, rfl⟩
  · have h1I : ¬ (97 : Int) ≤ (n : Int) := by omega
    by_cases h3 : 65 ≤ n
    · have h3I : (65 : Int) ≤ (n : Int) := by omega
      by_cases h4 : n ≤ 90
      · have h4I : (n : Int) ≤ 90 := by omega
        have HE : Hid (r = true) := by show _ = _; rw [HR.out]; simp [h3, h4]
        clear HR
        go_enter Tryd.func79, Tryd.ntmps79
        go_wp2
        go_ret
        exact ⟨by rw [HE.out]; rfl, rfl⟩
      · have h4I : ¬ (n : Int) ≤ 90 := by omega
        by_cases h5 : n = 95
        · have h5I : ((n : Int) == 95) = true := by rw [h5]; rfl
          have HE : Hid (r = true) := by show _ = _; rw [HR.out]; simp [h5]
          clear HR
          go_enter Tryd.func79, Tryd.ntmps79
          go_wp2
          go_ret
          exact ⟨by rw [HE.out]; rfl, rfl⟩
        · have h5I : ((n : Int) == 95) = false := by rw [beq_eq_false_iff_ne]; omega
          have HE : Hid (r = false) := by show _ = _; rw [HR.out, decide_eq_false_iff_not]; omega
          clear HR
          go_enter Tryd.func79, Tryd.ntmps79
          go_wp2
          go_ret
          exact ⟨by rw [HE.out]; rfl, rfl⟩
    · have h3I : ¬ (65 : Int) ≤ (n : Int) := by omega
      have h5I : ((n : Int) == 95) = false := by rw [beq_eq_false_iff_ne]; omega
      have HE : Hid (r = false) := by show _ = _; rw [HR.out, decide_eq_false_iff_not]; omega
      clear HR
      go_enter Tryd.func79, Tryd.ntmps79
      go_wp2
      go_ret
      exact ⟨by rw [HE.out]; rfl, rfl⟩
set_option maxHeartbeats 4000000 in
set_option maxRecDepth 100000 in
theorem pres_any (s : ByteArray) (w : World) : Calls Tryd.prog 81 #[.string s] w fun e w' => e = .returned (.bool (resB s)) ∧ w = w' := by
  obtain ⟨r, hr⟩ : ∃ r, r = resB s := ⟨_, rfl⟩
  rw [← hr]
  have HT : Hid (∀ x ∈ resL, x = s → r = true) := fun x hx h => by
    rw [hr, resB, List.any_eq_true]
    exact ⟨x, hx, decide_eq_true h⟩
  have HN : Hid ((∀ x ∈ resL, x ≠ s) → r = false) := fun h => by
    rw [hr, resB, List.any_eq_false]
    intro x hx
    simp [h x hx]
  clear hr
  by_cases h0 : s = ⟨#[102, 114, 111, 109]⟩
  · have HE : Hid (r = true) := HT.out ⟨#[102, 114, 111, 109]⟩ (by simp [resL]) h0.symm
    clear HT HN
    subst h0
    go_enter Tryd.func81, Tryd.ntmps81
    go_wp2
    go_ret
    exact ⟨by rw [HE.out]; rfl, rfl⟩
  by_cases h1 : s = ⟨#[119, 104, 101, 114, 101]⟩
  · have HE : Hid (r = true) := HT.out ⟨#[119, 104, 101, 114, 101]⟩ (by simp [resL]) h1.symm
    clear HT HN
    subst h1
    go_enter Tryd.func81, Tryd.ntmps81
    go_wp2
    go_ret
    exact ⟨by rw [HE.out]; rfl, rfl⟩
  by_cases h2 : s = ⟨#[97, 110, 100]⟩
  · have HE : Hid (r = true) := HT.out ⟨#[97, 110, 100]⟩ (by simp [resL]) h2.symm
    clear HT HN
    subst h2
    go_enter Tryd.func81, Tryd.ntmps81
    go_wp2
    go_ret
    exact ⟨by rw [HE.out]; rfl, rfl⟩
  by_cases h3 : s = ⟨#[111, 114, 100, 101, 114]⟩
  · have HE : Hid (r = true) := HT.out ⟨#[111, 114, 100, 101, 114]⟩ (by simp [resL]) h3.symm
    clear HT HN
    subst h3
    go_enter Tryd.func81, Tryd.ntmps81
    go_wp2
    go_ret
    exact ⟨by rw [HE.out]; rfl, rfl⟩
  by_cases h4 : s = ⟨#[98, 121]⟩
  · have HE : Hid (r = true) := HT.out ⟨#[98, 121]⟩ (by simp [resL]) h4.symm
    clear HT HN
    subst h4
    go_enter Tryd.func81, Tryd.ntmps81
    go_wp2
    go_ret
    exact ⟨by rw [HE.out]; rfl, rfl⟩
  by_cases h5 : s = ⟨#[102, 97, 108, 108, 105, 110, 103]⟩
  · have HE : Hid (r = true) := HT.out ⟨#[102, 97, 108, 108, 105, 110, 103]⟩ (by simp [resL]) h5.symm
    clear HT HN
    subst h5
    go_enter Tryd.func81, Tryd.ntmps81
    go_wp2
    go_ret
    exact ⟨by rw [HE.out]; rfl, rfl⟩
  by_cases h6 : s = ⟨#[108, 105, 109, 105, 116]⟩
  · have HE : Hid (r = true) := HT.out ⟨#[108, 105, 109, 105, 116]⟩ (by simp [resL]) h6.symm
    clear HT HN
    subst h6
    go_enter Tryd.func81, Tryd.ntmps81
    go_wp2
    go_ret
    exact ⟨by rw [HE.out]; rfl, rfl⟩
  by_cases h7 : s = ⟨#[110, 117, 108, 108]⟩
  · have HE : Hid (r = true) := HT.out ⟨#[110, 117, 108, 108]⟩ (by simp [resL]) h7.symm
    clear HT HN
    subst h7
    go_enter Tryd.func81, Tryd.ntmps81
    go_wp2
    go_ret
    exact ⟨by rw [HE.out]; rfl, rfl⟩
  by_cases h8 : s = ⟨#[116, 114, 117, 101]⟩
  · have HE : Hid (r = true) := HT.out ⟨#[116, 114, 117, 101]⟩ (by simp [resL]) h8.symm
    clear HT HN
    subst h8
    go_enter Tryd.func81, Tryd.ntmps81
    go_wp2
    go_ret
    exact ⟨by rw [HE.out]; rfl, rfl⟩
  by_cases h9 : s = ⟨#[102, 97, 108, 115, 101]⟩
  · have HE : Hid (r = true) := HT.out ⟨#[102, 97, 108, 115, 101]⟩ (by simp [resL]) h9.symm
    clear HT HN
    subst h9
    go_enter Tryd.func81, Tryd.ntmps81
    go_wp2
    go_ret
    exact ⟨by rw [HE.out]; rfl, rfl⟩
  have HE : Hid (r = false) := HN.out (by
    intro x hx e
    simp only [resL, List.mem_cons, List.not_mem_nil, or_false] at hx
    rcases hx with rfl | rfl | rfl | rfl | rfl | rfl | rfl | rfl | rfl | rfl
    · exact h0 e.symm
    · exact h1 e.symm
    · exact h2 e.symm
    · exact h3 e.symm
    · exact h4 e.symm
    · exact h5 e.symm
    · exact h6 e.symm
    · exact h7 e.symm
    · exact h8 e.symm
    · exact h9 e.symm)
  have g0 : (s.toList == [102, 114, 111, 109]) = false := by have h := str_ne h0; rwa [ByteArray.toList_eq ⟨#[102, 114, 111, 109]⟩] at h
  have g1 : (s.toList == [119, 104, 101, 114, 101]) = false := by have h := str_ne h1; rwa [ByteArray.toList_eq ⟨#[119, 104, 101, 114, 101]⟩] at h
  have g2 : (s.toList == [97, 110, 100]) = false := by have h := str_ne h2; rwa [ByteArray.toList_eq ⟨#[97, 110, 100]⟩] at h
  have g3 : (s.toList == [111, 114, 100, 101, 114]) = false := by have h := str_ne h3; rwa [ByteArray.toList_eq ⟨#[111, 114, 100, 101, 114]⟩] at h
  have g4 : (s.toList == [98, 121]) = false := by have h := str_ne h4; rwa [ByteArray.toList_eq ⟨#[98, 121]⟩] at h
  have g5 : (s.toList == [102, 97, 108, 108, 105, 110, 103]) = false := by have h := str_ne h5; rwa [ByteArray.toList_eq ⟨#[102, 97, 108, 108, 105, 110, 103]⟩] at h
  have g6 : (s.toList == [108, 105, 109, 105, 116]) = false := by have h := str_ne h6; rwa [ByteArray.toList_eq ⟨#[108, 105, 109, 105, 116]⟩] at h
  have g7 : (s.toList == [110, 117, 108, 108]) = false := by have h := str_ne h7; rwa [ByteArray.toList_eq ⟨#[110, 117, 108, 108]⟩] at h
  have g8 : (s.toList == [116, 114, 117, 101]) = false := by have h := str_ne h8; rwa [ByteArray.toList_eq ⟨#[116, 114, 117, 101]⟩] at h
  have g9 : (s.toList == [102, 97, 108, 115, 101]) = false := by have h := str_ne h9; rwa [ByteArray.toList_eq ⟨#[102, 97, 108, 115, 101]⟩] at h
  clear HT HN h0 h1 h2 h3 h4 h5 h6 h7 h8 h9
  go_enter Tryd.func81, Tryd.ntmps81
  go_wp2
  go_ret
  exact ⟨by rw [HE.out]; rfl, rfl⟩
set_option maxHeartbeats 2000000 in
set_option maxRecDepth 100000 in
theorem pinw_any (c : UInt8) (w : World) : Calls Tryd.prog 80 #[.int .u8 (c.toNat : Int)] w fun e w' => e = .returned (.bool (inwB c)) ∧ w = w' := by
  have HL := hide (pbeg_any c w)
  have HD := hide (pdigit_any c w)
  obtain ⟨r, hr⟩ : ∃ r, r = inwB c := ⟨_, rfl⟩
  rw [← hr]
  unfold inwB at hr
  have HR := hide hr
  generalize letterB c = a at HL HR
  generalize digitB c = b at HD HR
  clear hr
  go_enter Tryd.func80, Tryd.ntmps80
  go_wp2_with fail
  refine HL.out.mono ?_
  rintro e w' ⟨rfl, rfl⟩
  cases a with
  | true =>
    go_wp2_with fail
    go_ret
    exact ⟨by rw [HR.out]; rfl, rfl⟩
  | false =>
    go_wp2_with fail
    refine HD.out.mono ?_
    rintro e w' ⟨rfl, rfl⟩
    go_wp2
    go_ret
    exact ⟨by rw [HR.out]; rfl, rfl⟩
set_option maxHeartbeats 2000000 in
set_option maxRecDepth 100000 in
theorem pplain_any (s : ByteArray) (w : World) (h0 : 0 < s.size) (hs : s.size ≤ 1000000) : Calls Tryd.prog 68 #[.string s] w fun e w' => e = .returned (.bool (plainB s)) ∧ w = w' := by
  obtain ⟨r, hr⟩ : ∃ r, r = plainB s := ⟨_, rfl⟩
  rw [← hr]
  rw [plain_first s h0, ← leadN_all] at hr
  have HL := hide (pbeg_any s[0] w)
  have HN := hide (lenof_any 80 inwB Tryd.call80 (fun c W => pinw_any c W) s w (by omega))
  have HRS := hide (pres_any s w)
  have HLE := leadN_le inwB s
  generalize leadN inwB s = m at HN hr HLE
  generalize letterB s[0] = a at HL hr
  generalize resB s = b at HRS hr
  have HR := hide hr
  clear hr
  have z0 : (0 : Int) < (s.size : Int) := by omega
  go_enter Tryd.func68, Tryd.ntmps68
  go_wp2_with fail
  refine HL.out.mono ?_
  rintro e w' ⟨rfl, rfl⟩
  cases a with
  | false =>
    go_wp2_with fail
    go_ret
    exact ⟨by rw [HR.out]; rfl, rfl⟩
  | true =>
    go_wp2_with fail
    refine HN.out.mono ?_
    rintro e w' ⟨rfl, rfl⟩
    by_cases hm : m = s.size
    · have hmI : ((m : Int) == (s.size : Int)) = true := by simp; omega
      have HF : Hid (r = !b) := by show _ = _; rw [HR.out, decide_eq_true hm]; simp
      clear HR hm
      go_wp2_with fail
      refine HRS.out.mono ?_
      rintro e w' ⟨rfl, rfl⟩
      go_wp2
      go_ret
      exact ⟨by rw [HF.out]; rfl, rfl⟩
    · have hmI : ((m : Int) == (s.size : Int)) = false := by simp; omega
      have HF : Hid (r = false) := by show _ = _; rw [HR.out, decide_eq_false hm]; simp
      clear HR hm
      go_wp2_with fail
      go_ret
      exact ⟨by rw [HF.out]; rfl, rfl⟩
/-- What a writer answers: the bytes with t behind them. -/
def WrP (w : World) (base : Nat) (t : List UInt8) (e : Ending) (w' : World) : Prop := ∃ a c, e = .returned (.slice a t.length c) ∧ Byt w' base (.slice a t.length c) t ∧ Gr base w w'
theorem nameL_le (s : ByteArray) : (nameL s).length ≤ 2 * s.size + 2 := by
  unfold nameL
  split
  · rw [q_len]; omega
  · have := qescL_len s.data.toList
    rw [q_len] at this
    simp only [List.length_cons, List.length_append, List.length_nil]
    omega
set_option maxHeartbeats 4000000 in
set_option maxRecDepth 100000 in
theorem papn_any (s : ByteArray) (o : List UInt8) (v : Value) (base : Nat) (w : World) (h0 : 0 < s.size) (hs : s.size ≤ 1000000) (hv : Byt w base v o) (hbase : base ≤ w.heap.size) (hlen : o.length ≤ 99999990000000) :
    Calls Tryd.prog 47 #[v, .string s] w fun e w' => WrP w base (o ++ nameL s) e w' := by
  have HPL := hide (pplain_any s w h0 hs)
  obtain ⟨va, vc, hf⟩ := hv.form
  subst hf
  by_cases hp : plainB s = true
  · have hn : nameL s = s.data.toList := by unfold nameL; rw [if_pos hp]
    rw [hn]
    rw [hp] at HPL
    obtain ⟨a, c, w2, hr, hb, hbl⟩ := byt_str hv s s.data.toList rfl (by rw [q_len]; omega) hbase
    generalize o ++ s.data.toList = t at *
    have HRUN := hide hr
    have HB := hide hb
    have HBL := hide hbl
    clear hr hb hbl hn hp hv
    go_enter Tryd.func47, Tryd.ntmps47
    go_wp2_with (first
      | (go_at_call 68; refine HPL.out.mono ?_; rintro e w' ⟨rfl, rfl⟩)
      | (at_builtin; refine wpList_append_run2 79 9 rfl _ _ rfl rfl _ _ rfl rfl _ _ HRUN.out ?_)
      | fail)
    go_ret
    exact ⟨a, c, rfl, HB.out, HBL.out⟩
  · have hp' : plainB s = false := by simpa using hp
    rw [hp'] at HPL
    have hn : nameL s = 96 :: (qescL s.data.toList ++ [96]) := by unfold nameL; rw [if_neg hp]
    rw [hn]
    obtain ⟨T, hT⟩ : ∃ T, T = o ++ 96 :: (qescL s.data.toList ++ [96]) := ⟨_, rfl⟩
    rw [← hT]
    have HT := hide hT
    obtain ⟨a1, c1, w1, hr1, hb1, hbl1⟩ := byt_push hv [96] #[.int .u8 96] 1 rfl rfl (by decide) (by omega) hbase w.heap.size rfl
    have HRUN := hide hr1
    have HB1 := hide hb1
    have HBL1 := hide hbl1
    obtain ⟨o1, ho1⟩ : ∃ o1, o1 = o ++ [96] := ⟨_, rfl⟩
    rw [← ho1] at HRUN HB1
    have HO1 := hide ho1
    have HOL : Hid (o1.length ≤ 99999990000001) := by show _ ≤ _; rw [ho1]; simp; omega
    have HBS : Hid (base ≤ w1.heap.size) := Nat.le_trans hbase hbl1.size
    clear hr1 hb1 hbl1 hn hp hp' hv hT ho1
    go_enter Tryd.func47, Tryd.ntmps47
    go_wp2_with (first
      | (go_at_call 68; refine HPL.out.mono ?_; rintro e w' ⟨rfl, rfl⟩)
      | (at_builtin; refine wpList_append_run2 79 79 rfl _ _ rfl rfl _ _ rfl rfl _ _ HRUN.out ?_)
      | fail)
    clear HRUN HPL
    go_loopw [0, 16] (fun ov iv wr => ∃ (k : Nat) (t : List UInt8) (a : Option Addr) (c : Nat), ov = .slice a t.length c ∧ iv = .int .i64 (k : Int) ∧ k ≤ s.size ∧ Hid (t = o1 ++ qescL (s.data.toList.take k)) ∧ Hid (Byt wr base (.slice a t.length c) t) ∧ Hid (Gr base w wr)) (fun _ iv _ => s.size - (intOf iv).toNat)
    case atStart => exact ⟨0, o1, a1, c1, rfl, rfl, Nat.zero_le _, by show _ = _; simp [qescL], HB1.out, HBL1.out⟩
    case round =>
      obtain ⟨k, t, a, c, rfl, rfl, hk, ht, hb, hbl⟩ := hrel
      have hq := qescL_len (s.data.toList.take k)
      have htl : t.length ≤ 99999995000001 := by
        have h1 := HOL.out
        rw [ht.out, List.length_append]
        rw [List.length_take, q_len] at hq
        omega
      have hbs : base ≤ wr.heap.size := Nat.le_trans (Nat.le_trans hbase (Nat.le_refl _)) hbl.out.size
      by_cases hlt : k < s.size
      · have hltI : (k : Int) < (s.size : Int) := by omega
        have e0 : (0 : Int) ≤ (k : Int) := by omega
        have HTK := hide (qescL_take s.data.toList k (by rw [q_len]; exact hlt))
        have HJ : Hid (k + 1 ≤ s.size) := by show _ ≤ _; omega
        have hgk : s.data.toList[k]'(by rw [q_len]; exact hlt) = s[k] := rfl
        rw [hgk] at HTK
        by_cases h96 : s[k] = 96
        · have h96I : ((s[k].toNat : Int) == 96) = true := by rw [h96]; rfl
          obtain ⟨a2, c2, w2, hr2, hb2, hbl2⟩ := byt_push hb.out [96] #[.int .u8 96] 1 rfl rfl (by decide) (by omega) hbs wr.heap.size rfl
          obtain ⟨a3, c3, w3, hr3, hb3, hbl3⟩ := byt_push hb2 [s[k]] #[.int .u8 (s[k].toNat : Int)] 1 rfl rfl (by decide) (by simp; omega) (Nat.le_trans hbs hbl2.size) w2.heap.size rfl
          have HR2 := hide hr2
          have HR3 := hide hr3
          have HT3 : Hid (t ++ [96] ++ [s[k]] = o1 ++ qescL (s.data.toList.take (k + 1))) := by
            show _ = _
            rw [HTK.out, if_pos h96, ht.out, h96]; simp
          have HB3 := hide hb3
          have HBL3 : Hid (Gr base w w3) := (hbl.out.trans hbl2).trans hbl3
          generalize t ++ [96] ++ [s[k]] = t3 at *
          generalize t ++ [96] = t2 at *
          clear hr2 hb2 hbl2 hr3 hb3 hbl3 ht hb hbl hq HTK h96 hgk
          go_wp2_with (first
            | (at_builtin; refine wpList_append_run2 79 79 rfl _ _ rfl rfl _ _ rfl rfl _ _ HR2.out ?_; clear HR2)
            | (at_builtin; refine wpList_append_run2 79 79 rfl _ _ rfl rfl _ _ rfl rfl _ _ HR3.out ?_)
            | fail)
          go_roundw
          case rel => exact ⟨k + 1, t3, a3, c3, rfl, by go_num, HJ.out, HT3.out, HB3.out, HBL3.out⟩
          case measure => simp [intOf]; omega
        · have h96I : ((s[k].toNat : Int) == 96) = false := by
            have : s[k].toNat ≠ 96 := fun e => h96 (UInt8.toNat_inj.1 e)
            rw [beq_eq_false_iff_ne]; omega
          obtain ⟨a3, c3, w3, hr3, hb3, hbl3⟩ := byt_push hb.out [s[k]] #[.int .u8 (s[k].toNat : Int)] 1 rfl rfl (by decide) (by omega) hbs wr.heap.size rfl
          have HR3 := hide hr3
          have HT3 : Hid (t ++ [s[k]] = o1 ++ qescL (s.data.toList.take (k + 1))) := by
            show _ = _
            rw [HTK.out, if_neg h96, ht.out]; simp
          have HB3 := hide hb3
          have HBL3 : Hid (Gr base w w3) := hbl.out.trans hbl3
          generalize t ++ [s[k]] = t3 at *
          clear hr3 hb3 hbl3 ht hb hbl hq HTK h96 hgk
          go_wp2_with (first
            | (at_builtin; refine wpList_append_run2 79 79 rfl _ _ rfl rfl _ _ rfl rfl _ _ HR3.out ?_)
            | fail)
          go_roundw
          case rel => exact ⟨k + 1, t3, a3, c3, rfl, by go_num, HJ.out, HT3.out, HB3.out, HBL3.out⟩
          case measure => simp [intOf]; omega
      · have hltI : ¬ (k : Int) < (s.size : Int) := by omega
        have hke : k = s.size := by omega
        obtain ⟨a3, c3, w3, hr3, hb3, hbl3⟩ := byt_push hb.out [96] #[.int .u8 96] 1 rfl rfl (by decide) (by omega) hbs wr.heap.size rfl
        have hTT : t ++ [96] = T := by
          rw [HT.out, ht.out, hke, ← q_len, List.take_length, HO1.out]; simp
        rw [hTT] at hr3 hb3
        have HR3 := hide hr3
        have HB3 := hide hb3
        have HBL3 : Hid (Gr base w w3) := hbl.out.trans hbl3
        clear hr3 hb3 hbl3 ht hb hbl hq hTT hke
        go_wp2_with (first
          | (at_builtin; refine wpList_append_run2 79 79 rfl _ _ rfl rfl _ _ rfl rfl _ _ HR3.out ?_)
          | fail)
        go_ret
        exact ⟨a3, c3, rfl, HB3.out, HBL3.out⟩
end Go.Proofs.YtddhjnfcbpookaaDoor

namespace Go.Proofs.YtddhjnfcbpookaaDoor
open Go.RowKit

theorem step_append_run2 {ops : Array Oper} {o : Oper} {a : Act} {w : World} {K : Act → World → Prop} {Q : Exit → Act → World → Prop} {E : Prop} (t : TypeId) (hgd : o.guard = none) (d x : Operand)
    (ho : o.op = .call { callee := .builtin .append, args := #[d, x], argTypes := #[t, t] }) (hty : o.type = t) (vd vx : Value) (hd : a.eval d = vd) (hx : a.eval x = vx) (v : Value) (w' : World)
    (hrun : (Builtin.append_ #[t, t] t #[vd, vx]).run Tryd.prog w = .ok v w') (h : K (a.put o.dst v) w') : if Region.wanted o (yielded ops a.tmps) = true then Oper.wp Tryd.prog o a w K Q else E := by
  have hw : Region.wanted o (yielded ops a.tmps) = true := by simp [Region.wanted, hgd]
  rw [if_pos hw]
  unfold Oper.wp
  simp [execOp, ho, resolve, invoke, builtin, hd, hx, hty, hrun, Result.andThen]
  exact h
theorem and15 : ∀ x : Fin 256, bits BinOp.and IntKind.u8 (x.1 : Int) 15 = ((x.1 % 16 : Nat) : Int) := by decide +kernel
theorem quotedL_le (s : ByteArray) : (quotedL s).length ≤ 4 * s.size + 2 := by
  have := quoL_len s.data.toList
  rw [q_len] at this
  simp only [quotedL, List.length_cons, List.length_append, List.length_nil]
  omega
set_option maxHeartbeats 4000000 in
set_option maxRecDepth 100000 in
theorem papt_any (s : ByteArray) (o : List UInt8) (v : Value) (base : Nat) (w : World) (hs : s.size ≤ 20000000) (hv : Byt w base v o) (hbase : base ≤ w.heap.size) (hlen : o.length ≤ 99999000000000) :
    Calls Tryd.prog 83 #[v, .string s] w fun e w' => WrP w base (o ++ quotedL s) e w' := by
  obtain ⟨va, vc, hf⟩ := hv.form
  subst hf
  obtain ⟨T, hT⟩ : ∃ T, T = o ++ quotedL s := ⟨_, rfl⟩
  rw [← hT]
  have HT : Hid (T = o ++ 34 :: (quoL s.data.toList ++ [34])) := hT
  obtain ⟨a1, c1, w1, hr1, hb1, hbl1⟩ := byt_push hv [34] #[.int .u8 34] 1 rfl rfl (by decide) (by omega) hbase w.heap.size rfl
  have HRUN := hide hr1
  have HB1 := hide hb1
  have HBL1 := hide hbl1
  obtain ⟨o1, ho1⟩ : ∃ o1, o1 = o ++ [34] := ⟨_, rfl⟩
  rw [← ho1] at HRUN HB1
  have HO1 := hide ho1
  have HOL : Hid (o1.length ≤ 99999000000001) := by show _ ≤ _; rw [ho1]; simp; omega
  clear hr1 hb1 hbl1 hv hT ho1
  go_enter Tryd.func83, Tryd.ntmps83
  go_wp2_with (first
    | (at_builtin; refine wpList_append_run2 79 79 rfl _ _ rfl rfl _ _ rfl rfl _ _ HRUN.out ?_)
    | fail)
  clear HRUN
  go_loopw [0, 12] (fun ov iv wr => ∃ (k : Nat) (t : List UInt8) (a : Option Addr) (c : Nat), ov = .slice a t.length c ∧ iv = .int .i64 (k : Int) ∧ k ≤ s.size ∧ Hid (t = o1 ++ quoL (s.data.toList.take k)) ∧ Hid (Byt wr base (.slice a t.length c) t) ∧ Hid (Gr base w wr)) (fun _ iv _ => s.size - (intOf iv).toNat)
  case atStart => exact ⟨0, o1, a1, c1, rfl, rfl, Nat.zero_le _, by show _ = _; simp [quoL], HB1.out, HBL1.out⟩
  case round =>
    obtain ⟨k, t, a, c, rfl, rfl, hk, ht, hb, hbl⟩ := hrel
    have hq := quoL_len (s.data.toList.take k)
    have htl : t.length ≤ 99999100000001 := by
      have h1 := HOL.out
      rw [ht.out, List.length_append]
      rw [List.length_take, q_len] at hq
      omega
    have hbs : base ≤ wr.heap.size := Nat.le_trans hbase hbl.out.size
    by_cases hlt : k < s.size
    · have hltI : (k : Int) < (s.size : Int) := by omega
      have e0 : (0 : Int) ≤ (k : Int) := by omega
      have HTK : Hid (quoL (s.data.toList.take (k + 1)) = quoL (s.data.toList.take k) ++ quoB (s[k]'hlt)) := quoL_take s.data.toList k (by rw [q_len]; exact hlt)
      have HJ : Hid (k + 1 ≤ s.size) := by show _ ≤ _; omega
      obtain ⟨x, hx⟩ : ∃ x : UInt8, x = s[k]'hlt := ⟨_, rfl⟩
      have hxx : s[k]'hlt = x := hx.symm
      rw [← hx] at HTK
      clear hx
      by_cases hns : x.toNat < 32 ∨ 126 < x.toNat
      · obtain ⟨hi', hhi⟩ : ∃ hi', hi' = x.toNat / 16 := ⟨_, rfl⟩
        obtain ⟨lo, hlo⟩ : ∃ lo, lo = x.toNat % 16 := ⟨_, rfl⟩
        have hb8 := x.toNat_lt
        have hsh : (x.toNat : Int) / 16 = (hi' : Int) := by omega
        have hsl : bits BinOp.and IntKind.u8 (x.toNat : Int) 15 = (lo : Int) := by rw [hlo]; exact and15 ⟨x.toNat, hb8⟩
        have i1 : hi' < 16 := by omega
        have i2 : lo < 16 := by omega
        have hq2 : quoB x = [92, 120, digB[hi']'i1, digB[lo]'i2] := by
          unfold quoB
          rw [if_pos hns, ← hhi, ← hlo, dig_hex ⟨hi', i1⟩, dig_hex ⟨lo, i2⟩]
        obtain ⟨a3, c3, w3, hr3, hb3, hbl3⟩ := byt_push (w := wr.drew) (o := t) (base := base) hb.out [92, 120, digB[hi']'i1, digB[lo]'i2] #[.int .u8 92, .int .u8 120, .int .u8 ((digB[hi']'i1).toNat : Int), .int .u8 ((digB[lo]'i2).toNat : Int)] 4 rfl rfl (by decide) (by omega) hbs wr.heap.size rfl
        have HR3 := hide hr3
        have HT3 : Hid (t ++ [92, 120, digB[hi']'i1, digB[lo]'i2] = o1 ++ quoL (s.data.toList.take (k + 1))) := by
          show _ = _
          rw [HTK.out, hq2, ht.out, List.append_assoc]
        have HB3 := hide hb3
        have HBL3 : Hid (Gr base w w3) := hbl.out.drew.trans hbl3
        generalize t ++ [92, 120, digB[hi']'i1, digB[lo]'i2] = t3 at *
        have i1I : (hi' : Int) < 16 := by omega
        have i2I : (lo : Int) < 16 := by omega
        have i10 : (0 : Int) ≤ (hi' : Int) := by omega
        have i20 : (0 : Int) ≤ (lo : Int) := by omega
        have hcs : ((x.toNat : Int) < 32) ∨ (¬ (x.toNat : Int) < 32 ∧ (126 : Int) < (x.toNat : Int)) := by omega
        clear hr3 hb3 hbl3 ht hb hbl hq HTK hq2 hns hhi hlo hb8
        rcases hcs with h1 | ⟨h1, h2⟩
        all_goals
          go_wp2_with fail
          go_region_law (first | (refine step_append_run2 79 rfl (.tmp 29) (.tmp 36) rfl rfl _ _ rfl rfl _ _ HR3.out ?_))
          all_goals
            go_wp2
            go_roundw
            case rel => exact ⟨k + 1, t3, a3, c3, rfl, by go_num, HJ.out, HT3.out, HB3.out, HBL3.out⟩
            case measure => simp [intOf]; omega
      · have n1 : ¬ x.toNat < 32 := by omega
        have n2 : ¬ 126 < x.toNat := by omega
        have n1I : ¬ (x.toNat : Int) < 32 := by omega
        have n2I : ¬ (126 : Int) < (x.toNat : Int) := by omega
        by_cases hqb : x = 34 ∨ x = 92
        · have hq2 : quoB x = [92, x] := by
            unfold quoB
            rw [if_neg hns, if_pos hqb]
          obtain ⟨a3, c3, w3, hr3, hb3, hbl3⟩ := byt_push hb.out [92, x] #[.int .u8 92, .int .u8 (x.toNat : Int)] 2 rfl rfl (by decide) (by omega) hbs wr.heap.size rfl
          have HR3 := hide hr3
          have HT3 : Hid (t ++ [92, x] = o1 ++ quoL (s.data.toList.take (k + 1))) := by
            show _ = _
            rw [HTK.out, hq2, ht.out, List.append_assoc]
          have HB3 := hide hb3
          have HBL3 : Hid (Gr base w w3) := hbl.out.trans hbl3
          generalize t ++ [92, x] = t3 at *
          have hcs : ((x.toNat : Int) == 34) = true ∨ (((x.toNat : Int) == 34) = false ∧ ((x.toNat : Int) == 92) = true) := by
            rcases hqb with rfl | rfl
            · left; rfl
            · right; exact ⟨rfl, rfl⟩
          clear hr3 hb3 hbl3 ht hb hbl hq HTK hq2 hns n1 n2 hqb
          rcases hcs with h1 | ⟨h1, h2⟩
          all_goals
            go_wp2_with (first
              | (at_builtin; refine wpList_append_run2 79 79 rfl _ _ rfl rfl _ _ rfl rfl _ _ HR3.out ?_)
              | fail)
            go_roundw
            case rel => exact ⟨k + 1, t3, a3, c3, rfl, by go_num, HJ.out, HT3.out, HB3.out, HBL3.out⟩
            case measure => simp [intOf]; omega
        · have hq2 : quoB x = [x] := by
            unfold quoB
            rw [if_neg hns, if_neg hqb]
          have h34 : ((x.toNat : Int) == 34) = false := by
            have : x.toNat ≠ 34 := fun e => hqb (.inl (UInt8.toNat_inj.1 e))
            rw [beq_eq_false_iff_ne]; omega
          have h92 : ((x.toNat : Int) == 92) = false := by
            have : x.toNat ≠ 92 := fun e => hqb (.inr (UInt8.toNat_inj.1 e))
            rw [beq_eq_false_iff_ne]; omega
          obtain ⟨a3, c3, w3, hr3, hb3, hbl3⟩ := byt_push hb.out [x] #[.int .u8 (x.toNat : Int)] 1 rfl rfl (by decide) (by omega) hbs wr.heap.size rfl
          have HR3 := hide hr3
          have HT3 : Hid (t ++ [x] = o1 ++ quoL (s.data.toList.take (k + 1))) := by
            show _ = _
            rw [HTK.out, hq2, ht.out, List.append_assoc]
          have HB3 := hide hb3
          have HBL3 : Hid (Gr base w w3) := hbl.out.trans hbl3
          generalize t ++ [x] = t3 at *
          clear hr3 hb3 hbl3 ht hb hbl hq HTK hq2 hns n1 n2 hqb
          go_wp2_with (first
            | (at_builtin; refine wpList_append_run2 79 79 rfl _ _ rfl rfl _ _ rfl rfl _ _ HR3.out ?_)
            | fail)
          go_roundw
          case rel => exact ⟨k + 1, t3, a3, c3, rfl, by go_num, HJ.out, HT3.out, HB3.out, HBL3.out⟩
          case measure => simp [intOf]; omega
    · have hltI : ¬ (k : Int) < (s.size : Int) := by omega
      have hke : k = s.size := by omega
      obtain ⟨a3, c3, w3, hr3, hb3, hbl3⟩ := byt_push hb.out [34] #[.int .u8 34] 1 rfl rfl (by decide) (by omega) hbs wr.heap.size rfl
      have hTT : t ++ [34] = T := by
        rw [HT.out, ht.out, hke, ← q_len, List.take_length, HO1.out]; simp
      rw [hTT] at hr3 hb3
      have HR3 := hide hr3
      have HB3 := hide hb3
      have HBL3 : Hid (Gr base w w3) := hbl.out.trans hbl3
      clear hr3 hb3 hbl3 ht hb hbl hq hTT hke
      go_wp2_with (first
        | (at_builtin; refine wpList_append_run2 79 79 rfl _ _ rfl rfl _ _ rfl rfl _ _ HR3.out ?_)
        | fail)
      go_ret
      exact ⟨a3, c3, rfl, HB3.out, HBL3.out⟩
end Go.Proofs.YtddhjnfcbpookaaDoor
