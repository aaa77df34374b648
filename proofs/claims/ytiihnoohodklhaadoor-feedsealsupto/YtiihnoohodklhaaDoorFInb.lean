import Derived.Test.YtiihnoohodklhaaDoorFBy
namespace Go.Proofs.YtiihnoohodklhaaDoor
open Go.RowKit
attribute [local go_sem ↓] Go.wp_at_zero Go.wp_at_succ

/-- What a batch's bytes are made of: transactions, lengths, yes or no, texts. -/
inductive Part where
  | tx (n : Nat)
  | ln (n : Nat)
  | fl (b : Bool)
  | st (s : ByteArray)
def Part.val : Part → Value
  | .tx n => .iface 22 (.int .u64 (n : Int))
  | .ln n => .iface 3 (.int .i64 (n : Int))
  | .fl b => .iface 4 (.bool b)
  | .st s => .iface 9 (.string s)
def Part.bytes : Part → List UInt8
  | .tx n => beBytes n 8
  | .ln n => beBytes n 4
  | .fl b => [if b then 1 else 0]
  | .st s => s.data.toList
def Part.ok : Part → Prop
  | .tx n => n < 18446744073709551616
  | .ln n => n < 4294967296
  | .fl _ => True
  | .st s => s.size ≤ 1099511627776
def ptB (ps : List Part) : List UInt8 := ps.flatMap Part.bytes
theorem Part.blen (p : Part) (h : p.ok) : p.bytes.length ≤ 1099511627776 := by
  cases p with
  | tx n => simp [Part.bytes, beBytes_len]
  | ln n => simp [Part.bytes, beBytes_len]
  | fl b => simp [Part.bytes]
  | st s => exact h
theorem ptB_len (ps : List Part) (h : ∀ p ∈ ps, p.ok) : (ptB ps).length ≤ ps.length * 1099511627776 := by
  induction ps with
  | nil => simp [ptB]
  | cons p ps ih =>
    have h1 := p.blen (h p (by simp))
    have h2 := ih (fun q hq => h q (by simp [hq]))
    simp only [ptB, List.flatMap_cons, List.length_append, List.length_cons] at h2 ⊢
    omega
theorem as0_0 (v : Value) (w : World) : (Instr.typeAssert (.iface 22 v) 20 22 true).run Tryd.prog w = .ok (.tuple #[v, .bool true]) w := by kernel_rfl
theorem as1_0 (v : Value) (w : World) : (Instr.typeAssert (.iface 3 v) 20 22 true).run Tryd.prog w = .ok (.tuple #[.int .u64 0, .bool false]) w := by kernel_rfl
theorem as1_1 (v : Value) (w : World) : (Instr.typeAssert (.iface 3 v) 20 3 true).run Tryd.prog w = .ok (.tuple #[v, .bool true]) w := by kernel_rfl
theorem as2_0 (v : Value) (w : World) : (Instr.typeAssert (.iface 4 v) 20 22 true).run Tryd.prog w = .ok (.tuple #[.int .u64 0, .bool false]) w := by kernel_rfl
theorem as2_1 (v : Value) (w : World) : (Instr.typeAssert (.iface 4 v) 20 3 true).run Tryd.prog w = .ok (.tuple #[.int .i64 0, .bool false]) w := by kernel_rfl
theorem as2_2 (v : Value) (w : World) : (Instr.typeAssert (.iface 4 v) 20 4 true).run Tryd.prog w = .ok (.tuple #[v, .bool true]) w := by kernel_rfl
theorem as3_0 (v : Value) (w : World) : (Instr.typeAssert (.iface 9 v) 20 22 true).run Tryd.prog w = .ok (.tuple #[.int .u64 0, .bool false]) w := by kernel_rfl
theorem as3_1 (v : Value) (w : World) : (Instr.typeAssert (.iface 9 v) 20 3 true).run Tryd.prog w = .ok (.tuple #[.int .i64 0, .bool false]) w := by kernel_rfl
theorem as3_2 (v : Value) (w : World) : (Instr.typeAssert (.iface 9 v) 20 4 true).run Tryd.prog w = .ok (.tuple #[.bool false, .bool false]) w := by kernel_rfl
theorem as3_3 (v : Value) (w : World) : (Instr.typeAssert (.iface 9 v) 20 9 true).run Tryd.prog w = .ok (.tuple #[v, .bool true]) w := by kernel_rfl
attribute [local go_sem] as0_0 as1_0 as1_1 as2_0 as2_1 as2_2 as3_0 as3_1 as3_2 as3_3
set_option maxHeartbeats 8000000 in
theorem inb_any (ps : List Part) (v : Value) (w : World) (hr : RowR w v (ps.map Part.val)) (hok : ∀ p ∈ ps, p.ok) (hm : ps.length ≤ 8) :
    Calls Tryd.prog 23 #[v] w fun e w' => ∃ v', e = .returned v' ∧ BO w' w.heap.size v' (ptB ps) ∧ Below w.heap.size w w' := by
  obtain ⟨a, cap, rfl, hle, hnil, hc⟩ := hr
  rw [List.length_map] at hle ⊢
  obtain ⟨n, hn⟩ : ∃ n, n = ps.length := ⟨_, rfl⟩
  rw [← hn] at hle hm ⊢
  have HC := hide hc
  have HN := hide hn
  have HOK := hide hok
  obtain ⟨Q, hQ⟩ : ∃ Q : Ending → World → Prop, Q = fun e w' => ∃ v', e = .returned v' ∧ BO w' w.heap.size v' (ptB ps) ∧ Below w.heap.size w w' := ⟨_, rfl⟩
  rw [← hQ]
  have HQ := hide hQ
  clear hn hQ hok hc hnil hle
  go_enter Tryd.func23, Tryd.ntmps23
  go_wp2
  go_loopw [3, 12] (fun c i wr => ∃ (k : Nat) (x : Option Addr) (d m : Nat), k ≤ n ∧ i = .int .i64 k ∧ c = .slice x m d ∧ m = (ptB (ps.take k)).length ∧ BO wr w.heap.size (.slice x m d) (ptB (ps.take k)) ∧ Below w.heap.size w wr) (fun _ i _ => n - (intOf i).toNat)
  case atStart => exact ⟨0, none, 0, 0, Nat.zero_le _, rfl, rfl, rfl, BO.nil _ _, Below.refl _ _⟩
  case round =>
    obtain ⟨k, x, d, m, hk, rfl, rfl, hmm, hown, hbw⟩ := hrel
    have HMM := hide hmm
    by_cases hlt : k < n
    · have hkl : k < ps.length := by have := HN.out; omega
      obtain ⟨g, o, ha, c0⟩ := HC.out k _ (by rw [List.getElem?_map, List.getElem?_eq_getElem hkl]; rfl)
      subst ha
      have c1 := hbw.cell (p := ⟨g, o + k, none⟩) (World.block_lt_of_cell? w _ c0)
      rw [c0] at c1
      have HTK : Hid (ptB (ps.take (k + 1)) = ptB (ps.take k) ++ ps[k].bytes) := by show _ = _; unfold ptB; rw [List.take_add_one, List.getElem?_eq_getElem hkl, List.flatMap_append]; simp
      have hpk := HOK.out ps[k] (List.getElem_mem _)
      have hlen : (ptB (ps.take k)).length ≤ 8796093022208 := by
        have h1 := ptB_len (ps.take k) (fun p hp => HOK.out p (List.mem_of_mem_take hp))
        have h2 : (ps.take k).length ≤ 8 := by rw [List.length_take]; omega
        have h3 := Nat.mul_le_mul_right 1099511627776 h2
        omega
      obtain ⟨p, hp⟩ : ∃ p, p = ps[k] := ⟨_, rfl⟩
      rw [← hp] at c1 hpk HTK
      have hltI : (k : Int) < (n : Int) := by omega
      have j0 : (0 : Int) ≤ (k : Int) := by omega
      have HB := hide hbw
      have HOW := hide hown
      have HLE := hide hlen
      clear hp c0 hbw hown hmm
      generalize ptB (ps.take k) = xs at *
      cases p with
      | tx q =>
        simp only [Part.val] at c1
        have HA := hide (appn_any w.heap.size (.slice x m d) xs q 8 wr HOW.out hpk (by decide) (by decide) hpk (by have := HLE.out; omega) HB.out.size)
        clear hlen hpk
        go_wp2_with fail
        refine HA.out.mono ?_
        rintro e w1 ⟨v1, rfl, ho1, hb1⟩
        obtain ⟨x1, d1, rfl⟩ := ho1.form
        obtain ⟨m1, hm1⟩ : ∃ m1, m1 = (xs ++ beBytes q 8).length := ⟨_, rfl⟩
        rw [← hm1] at ho1 ⊢
        have HM1 := hide hm1
        have HO1 := hide ho1
        have HB1 := hide (HB.out.trans hb1)
        clear hm1 ho1 hb1 HA HB HOW c1
        go_wp2
        go_roundw
        case rel => exact ⟨k + 1, x1, d1, _, by omega, by go_num, rfl, by rw [HTK.out]; exact HM1.out, by rw [HTK.out]; exact HO1.out, HB1.out⟩
        case measure => simp [intOf]; omega
      | ln q =>
        simp only [Part.val] at c1
        have hq : q < 4294967296 := hpk
        have hw1 : IntKind.u64.wrap (q : Int) = (q : Int) := by rw [IntKind.wrap_u64]; omega
        have HA := hide (appn_any w.heap.size (.slice x m d) xs q 4 wr HOW.out (by omega) (by decide) (by decide) hpk (by have := HLE.out; omega) HB.out.size)
        clear hlen hpk hq
        go_wp2_with fail
        refine HA.out.mono ?_
        rintro e w1 ⟨v1, rfl, ho1, hb1⟩
        obtain ⟨x1, d1, rfl⟩ := ho1.form
        obtain ⟨m1, hm1⟩ : ∃ m1, m1 = (xs ++ beBytes q 4).length := ⟨_, rfl⟩
        rw [← hm1] at ho1 ⊢
        have HM1 := hide hm1
        have HO1 := hide ho1
        have HB1 := hide (HB.out.trans hb1)
        clear hm1 ho1 hb1 HA HB HOW c1 hw1
        go_wp2
        go_roundw
        case rel => exact ⟨k + 1, x1, d1, _, by omega, by go_num, rfl, by rw [HTK.out]; exact HM1.out, by rw [HTK.out]; exact HO1.out, HB1.out⟩
        case measure => simp [intOf]; omega
      | fl q =>
        simp only [Part.val] at c1
        have HA := hide (appf_any w.heap.size (.slice x m d) xs q wr HOW.out (by have := HLE.out; omega) HB.out.size)
        clear hlen hpk
        go_wp2_with fail
        refine HA.out.mono ?_
        rintro e w1 ⟨v1, rfl, ho1, hb1⟩
        obtain ⟨x1, d1, rfl⟩ := ho1.form
        obtain ⟨m1, hm1⟩ : ∃ m1, m1 = (xs ++ [if q then 1 else 0]).length := ⟨_, rfl⟩
        rw [← hm1] at ho1 ⊢
        have HM1 := hide hm1
        have HO1 := hide ho1
        have HB1 := hide (HB.out.trans hb1)
        clear hm1 ho1 hb1 HA HB HOW c1
        go_wp2
        go_roundw
        case rel => exact ⟨k + 1, x1, d1, _, by omega, by go_num, rfl, by rw [HTK.out]; exact HM1.out, by rw [HTK.out]; exact HO1.out, HB1.out⟩
        case measure => simp [intOf]; omega
      | st q =>
        simp only [Part.val] at c1
        have hq : q.size ≤ 1099511627776 := hpk
        obtain ⟨x1, d1, w1, hrun, ho1, hgr⟩ := append_str w.heap.size m (.slice x m d) xs wr (by have := HOW.out; unfold BO at this; rw [← HMM.out] at this; exact this) q (by have := HLE.out; have := HMM.out; omega) HB.out.size
        have HRUN := hide hrun
        have HB1 := hide (HB.out.grown hgr HB.out.size (fun q hq => (HOW.out.lt q hq).1))
        have HO1 : Hid (BO w1 w.heap.size (.slice x1 (m + q.size) d1) (xs ++ q.data.toList)) := by
          show BO _ _ _ _
          have h1 : (xs ++ q.data.toList).length = m + q.size := by rw [List.length_append, HMM.out]; rfl
          unfold BO; rw [h1]; exact ho1
        clear hlen hpk hrun ho1 hgr HB HOW hq
        go_wp2_with (first | (at_builtin; refine wpList_append_run2 49 9 rfl _ _ rfl rfl _ _ rfl rfl _ _ HRUN.out ?_))
        go_wp2
        go_roundw
        case rel => exact ⟨k + 1, x1, d1, _, by omega, by go_num, rfl, by rw [HTK.out, List.length_append, HMM.out]; rfl, by rw [HTK.out]; exact HO1.out, HB1.out⟩
        case measure => simp [intOf]; omega
    · have hltI : ¬ (k : Int) < (n : Int) := by omega
      have hkn : k = n := by omega
      subst hkn
      have HALL : Hid (ps.take k = ps) := by show _ = _; rw [HN.out]; exact List.take_length
      have HOW : Hid (BO wr w.heap.size (.slice x m d) (ptB ps)) := by show BO _ _ _ _; rw [HALL.out] at hown; exact hown
      have HB := hide hbw
      clear hbw hown hmm HMM
      go_wp2
      rw [HQ.out]
      exact ⟨_, rfl, HOW.out, HB.out⟩
end Go.Proofs.YtiihnoohodklhaaDoor
