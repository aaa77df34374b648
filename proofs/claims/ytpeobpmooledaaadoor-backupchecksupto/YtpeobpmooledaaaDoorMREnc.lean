import Derived.Test.YtpeobpmooledaaaDoorGK
import Derived.Test.YtpeobpmooledaaaDoorRefCrc
import Derived.Deep.AppendLies
import Derived.Deep.AppendSrc
import Derived.Lib.SlBytesConst
namespace Go.Proofs.YtpeobpmooledaaaDoor.M
open Go.RowKit

theorem be_get (n m k : Nat) (hm : m ≤ 8) (hk : k < m) : (beBytes n m)[k]'(by rw [beBytes_len n m hm]; exact hk) = dig n (7 - (m - 1 - k)) := by
  simp only [beBytes, List.getElem_drop]
  rw [digs_get]
  congr 1
  omega
theorem be_take (n m k : Nat) (hm : m ≤ 8) (hk : k < m) : (beBytes n m).take (k + 1) = (beBytes n m).take k ++ [dig n (7 - (m - 1 - k))] := by
  rw [take_next _ k (by rw [beBytes_len n m hm]; exact hk), be_get n m k hm hk]

/-- A slice that is full: its bytes can be read, and an append makes a new row. -/
def FullAt (w : World) (v : Value) (l : List UInt8) : Prop := ∃ g, v = .slice (some ⟨g, 0, none⟩) l.length l.length ∧ ∀ j (h : j < l.length), w.cell? ⟨g, j, none⟩ = some (.int .u8 (l[j].toNat : Int))

theorem grow_full (base : Nat) (w : World) (g B : Nat) (l : List UInt8) (x : UInt8) (hc : ∀ j (h : j < l.length), w.cell? ⟨g, j, none⟩ = some (.int .u8 (l[j].toNat : Int))) (hB : w.heap[B]? = some (.cells #[.int .u8 (x.toNat : Int)] 5 (0, 0))) (hl : l.length ≤ 4096) (hb : base ≤ w.heap.size) :
    ∃ cap w', (Builtin.append_ #[41, 41] 41 #[.slice (some ⟨g, 0, none⟩) l.length l.length, .slice (some ⟨B, 0, none⟩) 1 1]).run Tryd.prog w = .ok (.slice (some ⟨w.heap.size, 0, none⟩) (l.length + 1) cap) w' ∧
      w'.ownsRow base 5 1 (.slice (some ⟨w.heap.size, 0, none⟩) (l.length + 1) cap) (l.length + 1) (u8s (l ++ [x])) ∧ Below base w w' := by
  obtain ⟨i0, hi, hz0, hz1, hz2⟩ := info_parts Tryd.info5
  have hs : Src Tryd.prog i0.size 41 (.slice (some ⟨B, 0, none⟩) 1 1) 1 [Value.int .u8 (x.toNat : Int)] w := Src.ofSlice w Tryd.underlying41 ⟨B, 0, none⟩ 1 1 _ (by rw [hz1]; rfl) (World.news_of_block hB) (by intro u hu; simp at hu; rw [hu]; rfl)
  have hold : (Builtin.firstCells i0.size l.length (.slice (some ⟨g, 0, none⟩) l.length l.length)).run Tryd.prog w.drew = .ok (u8s l).toArray w.drew := by
    refine run_firstCells_some w.drew i0.size l.length ⟨g, 0, none⟩ l.length l.length (u8s l) (by rw [hz1, u8s_length, Nat.mul_one]) (fun j u hj => ?_)
    by_cases hjl : j < l.length
    · rw [u8s_get l j hjl] at hj
      cases hj
      rw [show (⟨g, 0, none⟩ : Addr).add j = ⟨g, j, none⟩ by simp [Addr.add]; omega]
      simpa using hc j hjl
    · rw [List.getElem?_eq_none (by rw [u8s_length]; omega)] at hj; cases hj
  have hrun := run_append_grow_src (P := Tryd.prog) w 41 41 41 5 i0 (.int .u8 0) Tryd.underlying41 hi hz0 (some ⟨g, 0, none⟩) l.length l.length (u8s l) hold (.slice (some ⟨B, 0, none⟩) 1 1) 1 _ hs (by omega) (by omega) (growslice_fits (by omega) (by rw [hz2]; omega))
  have hge := grownCap_ge w (l.length + 1) l.length 5
  have hcm := grownCap_le_maxLen w (l.length + 1) l.length 5 (by unfold maxLen; omega)
  have hnew : (w.drew.alloc (.cells ((u8s l ++ [Value.int .u8 (x.toNat : Int)]).toArray ++ Builtin.zeroCells (Value.int .u8 0).cells (grownCap w (l.length + 1) l.length 5 - (l.length + 1))) 5)).heap[w.heap.size]? = some (.cells ((u8s l ++ [Value.int .u8 (x.toNat : Int)]).toArray ++ Builtin.zeroCells (Value.int .u8 0).cells (grownCap w (l.length + 1) l.length 5 - (l.length + 1))) 5 (0, 0)) := heap_alloc_new w.drew _
  have hol2 : ∀ k, k < w.heap.size → (w.drew.alloc (.cells ((u8s l ++ [Value.int .u8 (x.toNat : Int)]).toArray ++ Builtin.zeroCells (Value.int .u8 0).cells (grownCap w (l.length + 1) l.length 5 - (l.length + 1))) 5)).heap[k]? = w.heap[k]? := fun k hk => Below.heap_alloc w.drew _ k hk
  refine ⟨_, _, hrun, ?_, ⟨rfl, rfl, rfl, by simp, fun k hk => hol2 k (by omega)⟩⟩
  refine ⟨by rw [u8s_length]; simp, .inr ⟨w.heap.size, _, _, rfl, hb, hnew, by simpa using hge, hcm, ?_, ?_⟩⟩
  · rw [Array.size_append, List.size_toArray, List.length_append, u8s_length, size_zeroCells]
    simp [Value.cells]
    omega
  · rw [Nat.mul_one, Array.toList_append, List.toList_toArray, List.take_append_of_le_length (by simp [u8s_length]), List.take_of_length_le (by simp [u8s_length]), u8s_append]; rfl

theorem wpList_append_run {ops : Array Oper} {rest : List Oper} {o : Oper} {a : Act} {w : World} {Q : Exit → Act → World → Prop} (hgd : o.guard = none) (d x : Operand)
    (ho : o.op = .call { callee := .builtin .append, args := #[d, x], argTypes := #[41, 41] }) (hty : o.type = 41) (vd vx : Value) (hd : a.eval d = vd) (hx : a.eval x = vx) (v : Value) (w' : World)
    (hrun : (Builtin.append_ #[41, 41] 41 #[vd, vx]).run Tryd.prog w = .ok v w') (h : wpList Tryd.prog ops Q rest (a.put o.dst v) w') : wpList Tryd.prog ops Q (o :: rest) a w :=
  wpList_plain hgd fun _ hK => by
    unfold Oper.wp
    simp [execOp, ho, resolve, invoke, builtin, hd, hx, hty, hrun, Result.andThen]
    exact hK _ _ h

set_option maxRecDepth 100000 in
set_option maxHeartbeats 1000000 in
theorem rput_any (base n m : Nat) (v : Value) (l : List UInt8) (w : World) (_hn : n < 18446744073709551616) (h1 : 1 ≤ m) (h8 : m ≤ 8) (hl : l.length ≤ 4088) (hv : w.ownsRow base 5 1 v l.length (u8s l) ∨ FullAt w v l) (hbs : base ≤ w.heap.size) :
    Calls Tryd.prog 47 #[v, .int .u64 (n : Int), .int .i64 (m : Int)] w fun e w' => ∃ v', e = .returned v' ∧ w'.ownsRow base 5 1 v' (l.length + m) (u8s (l ++ beBytes n m)) ∧ Below base w w' := by
  obtain ⟨i0, hi, hz0, hz1, hz2⟩ := info_parts Tryd.info5
  have HV := hide hv
  have hform : ∃ a c, v = .slice a l.length c := by
    rcases hv with hv | ⟨g, h, _⟩
    · rcases hv.2 with ⟨h', h0⟩ | ⟨g, cap, cur, h', _⟩
      · exact ⟨none, 0, by rw [h', h0]⟩
      · exact ⟨_, cap, h'⟩
    · exact ⟨_, _, h⟩
  obtain ⟨va, vc, rfl⟩ := hform
  clear hv
  go_enter Tryd.func47, Tryd.ntmps47
  go_wp2_with fail
  go_loopw [0, 7] (fun u i wr => ∃ k : Nat, k ≤ m ∧ i = .int .i64 ((m : Int) - 1 - (k : Int)) ∧ (wr.ownsRow base 5 1 u (l.length + k) (u8s (l ++ (beBytes n m).take k)) ∨ (k = 0 ∧ FullAt wr u l)) ∧ Below base w wr) (fun _ i _ => (intOf i + 1).toNat)
  case atStart => exact ⟨0, Nat.zero_le _, by simp, HV.out.imp (fun h => by simpa using h) (fun h => ⟨rfl, h⟩), ⟨rfl, rfl, rfl, Nat.le_refl _, fun _ _ => rfl⟩⟩
  case round =>
    obtain ⟨k, hk, rfl, hor, hnx⟩ := hrel
    clear HV
    by_cases hlt : k < m
    · obtain ⟨j, hjm⟩ : ∃ j, j = m - 1 - k := ⟨_, rfl⟩
      have e1 : (m : Int) - 1 - (k : Int) = (j : Int) := by omega
      rw [e1]
      have HS := hide (be_take n m k h8 hlt)
      rw [← hjm] at HS
      have HJM := hide hjm
      have hj8 : j < 8 := by omega
      have hv := dig_val n j hj8
      obtain ⟨x, hx⟩ : ∃ x, x = dig n (7 - j) := ⟨_, rfl⟩
      rw [← hx] at hv HS
      clear hx
      have HB := hide hnx
      have HL : Hid (wr.heap.size ≥ base) := Nat.le_trans hbs hnx.size
      clear e1 hjm
      rcases hor with hown | ⟨rfl, g0, hu, hc0⟩
      · obtain ⟨ua, uc, rfl⟩ : ∃ a c, u0 = .slice a (l.length + k) c := by
          rcases hown.2 with ⟨h', h0⟩ | ⟨g, cap, cur, h', _⟩
          · exact ⟨none, 0, by rw [h', h0]⟩
          · exact ⟨_, cap, h'⟩
        go_wp2_with (first
          | (at_builtin; refine wpList_append_lies _ rfl _ _ 41 rfl base 5 i0 (.int .u8 0) 1 1 Tryd.underlying41 hi hz0 hz1 hz2 rfl (by decide) _ _ _ rfl (hown.alloc _) ⟨wr.heap.size, 0, none⟩ 1 1 [.int .u8 (x.toNat : Int)] rfl rfl ?c1 ?c2 ?c3 ?c4 ?c5 ?c6 (wr.heap.size + 1) ?c7 ?_))
        case c1 =>
          intro j u hj
          match j, hj with
          | 0, hj => simp at hj; subst hj; simp [Addr.add]
        case c2 => intro u hu; simp at hu; subst hu; rfl
        case c3 => decide
        case c4 => unfold maxLen; omega
        case c5 => omega
        case c6 => have := HL.out; simp; omega
        case c7 => simp
        intro g cap w1 hown' hgrow hat hlg
        have hb1 : Below base w w1 := (HB.out.alloc (by have := HL.out; omega) _).grown hgrow (by have := HL.out; simp; omega) (fun j hj => (hown.lt j hj).1)
        have hown2 : w1.ownsRow base 5 1 (.slice (some ⟨g, 0, none⟩) (l.length + k + 1) cap) (l.length + (k + 1)) (u8s (l ++ (beBytes n m).take (k + 1))) := by
          rw [HS.out, ← List.append_assoc, u8s_append]; exact hown'
        clear hown' hgrow hown hat hlg hnx
        go_wp2_with fail
        go_roundw
        case rel =>
          refine ⟨k + 1, by omega, ?_, .inl hown2, hb1⟩
          have := HJM.out
          exact congrArg (Value.int .i64) (by omega)
        case measure => simp [intOf]
      · subst hu
        have hblk := fun j hj => World.block_lt_of_cell? wr _ (hc0 j hj)
        obtain ⟨cap, w1, hrun, hown2, hbb⟩ := grow_full base (wr.alloc (.cells #[.int .u8 (x.toNat : Int)] 5)) g0 wr.heap.size l x (fun j hj => ((below_new wr (.cells #[.int .u8 (x.toNat : Int)] 5)).cell (p := ⟨g0, j, none⟩) (hblk j hj)).trans (hc0 j hj)) (heap_alloc_new wr _) (by omega) (by have := HL.out; simp; omega)
        have HB1 : Hid (Below base w w1) := (HB.out.trans ((below_new wr _).mono HL.out)).trans hbb
        have HO2 : Hid (w1.ownsRow base 5 1 (.slice (some ⟨wr.heap.size + 1, 0, none⟩) (l.length + 1) cap) (l.length + 1) (u8s (l ++ [x]))) := by
          show World.ownsRow _ _ _ _ _ _ _
          simpa using hown2
        clear hown2 hbb hblk hc0 hnx
        go_wp2_with (first | (at_builtin; refine wpList_append_run rfl (.tmp 14) (.tmp 21) rfl rfl _ _ rfl rfl _ _ hrun ?_; clear hrun))
        go_roundw
        case rel =>
          refine ⟨1, by omega, ?_, .inl ?_, HB1.out⟩
          · have := HJM.out
            exact congrArg (Value.int .i64) (by omega)
          · rw [HS.out]
            simpa using HO2.out
        case measure => simp [intOf]
    · have hke : k = m := by omega
      subst hke
      have e1 : (k : Int) - 1 - (k : Int) = -1 := by omega
      rw [e1]
      have hown : wr.ownsRow base 5 1 u0 (l.length + k) (u8s (l ++ (beBytes n k).take k)) := by
        rcases hor with h | ⟨h, _⟩
        · exact h
        · omega
      clear hor
      go_wp2_with fail
      go_ret
      refine ⟨_, rfl, ?_, hnx⟩
      rw [List.take_of_length_le (by rw [beBytes_len n k h8]; exact Nat.le_refl _)] at hown
      exact hown

theorem rpmay_any (n : Int) (w : World) : Calls Tryd.prog 46 #[.int .i64 n] w fun e w' => e = .returned (.bool (decide (PagesOk n))) ∧ w = w' := by
  by_cases h1 : 4 ≤ n
  · by_cases h2 : n ≤ 1048576
    · have e1 : decide (PagesOk n) = true := decide_eq_true ⟨h1, h2⟩
      rw [e1]
      go_enter Tryd.func46, Tryd.ntmps46
      go_wp2
      go_ret
      exact ⟨rfl, rfl⟩
    · have e1 : decide (PagesOk n) = false := decide_eq_false (fun h => h2 h.2)
      rw [e1]
      go_enter Tryd.func46, Tryd.ntmps46
      go_wp2
      go_ret
      exact ⟨rfl, rfl⟩
  · have e1 : decide (PagesOk n) = false := decide_eq_false (fun h => h1 h.1)
    rw [e1]
    go_enter Tryd.func46, Tryd.ntmps46
    go_wp2
    go_ret
    exact ⟨rfl, rfl⟩

set_option maxHeartbeats 1000000 in
theorem rmay_any (m : Mt) (w : World) : Calls Tryd.prog 37 #[.agg m.cells.toArray] w fun e w' => e = .returned (.bool (decide (MayM m))) ∧ Below w.heap.size w w' := by
  obtain ⟨p, r, t⟩ := m
  simp only [Mt.cells]
  have HB : Hid (Below w.heap.size w (w.alloc (.cells #[.int .i64 p, .int .i64 r, .int .u64 (t : Int)] 24))) := below_new w _
  by_cases hp : PagesOk p
  · have HP : Hid (∀ w, Calls Tryd.prog 46 #[.int .i64 p] w fun e w' => e = .returned (.bool true) ∧ w = w') := fun w => by
      have h := rpmay_any p w
      rw [decide_eq_true hp] at h
      exact h
    by_cases h0 : r = 0
    · subst h0
      have e1 : decide (MayM ⟨p, 0, t⟩) = true := decide_eq_true ⟨hp, .inl rfl⟩
      rw [e1]
      clear e1 hp
      go_enter Tryd.func37, Tryd.ntmps37
      go_wp2_with (go_at_call 46; refine (HP.out _).mono ?_; rintro e w' ⟨rfl, rfl⟩)
      go_ret
      exact ⟨rfl, HB.out⟩
    · have h0b : (r == 0) = false := beq_eq_false_iff_ne.2 h0
      by_cases h1 : 2 ≤ r
      · by_cases h2 : r < p
        · have e1 : decide (MayM ⟨p, r, t⟩) = true := decide_eq_true ⟨hp, .inr ⟨h1, h2⟩⟩
          have hd2 : decide (r < p) = true := decide_eq_true h2
          rw [e1]
          clear e1 hp
          go_enter Tryd.func37, Tryd.ntmps37
          go_wp2_with (go_at_call 46; refine (HP.out _).mono ?_; rintro e w' ⟨rfl, rfl⟩)
          go_ret
          exact ⟨rfl, HB.out⟩
        · have e1 : decide (MayM ⟨p, r, t⟩) = false := decide_eq_false (fun h => h.2.elim h0 (fun h => h2 h.2))
          have hd2 : decide (r < p) = false := decide_eq_false h2
          rw [e1]
          clear e1 hp
          go_enter Tryd.func37, Tryd.ntmps37
          go_wp2_with (go_at_call 46; refine (HP.out _).mono ?_; rintro e w' ⟨rfl, rfl⟩)
          go_ret
          exact ⟨rfl, HB.out⟩
      · have e1 : decide (MayM ⟨p, r, t⟩) = false := decide_eq_false (fun h => h.2.elim h0 (fun h => h1 h.1))
        rw [e1]
        clear e1 hp
        go_enter Tryd.func37, Tryd.ntmps37
        go_wp2_with (go_at_call 46; refine (HP.out _).mono ?_; rintro e w' ⟨rfl, rfl⟩)
        go_ret
        exact ⟨rfl, HB.out⟩
  · have HP : Hid (∀ w, Calls Tryd.prog 46 #[.int .i64 p] w fun e w' => e = .returned (.bool false) ∧ w = w') := fun w => by
      have h := rpmay_any p w
      rw [decide_eq_false hp] at h
      exact h
    have e1 : decide (MayM ⟨p, r, t⟩) = false := decide_eq_false (fun h => hp h.1)
    rw [e1]
    clear e1 hp
    go_enter Tryd.func37, Tryd.ntmps37
    go_wp2_with (go_at_call 46; refine (HP.out _).mono ?_; rintro e w' ⟨rfl, rfl⟩)
    go_ret
    exact ⟨rfl, HB.out⟩


end Go.Proofs.YtpeobpmooledaaaDoor.M
