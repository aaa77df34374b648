import Derived.Test.YtiihnoohodklhaaDoorFSum
import Derived.Test.YtiihnoohodklhaaDoorRefCrc
namespace Go.Proofs.YtiihnoohodklhaaDoor
open Go.RowKit
attribute [local go_sem ↓] Go.wp_at_zero Go.wp_at_succ

theorem rflag_any (b : Bool) (w : World) : Calls Tryd.prog 28 #[.bool b] w fun e w' => e = .returned (.int .u8 (if b then 1 else 0)) ∧ w = w' := by
  cases b <;>
  (go_enter Tryd.func28, Tryd.ntmps28
   go_wp2
   go_ret
   exact ⟨rfl, rfl⟩)
set_option maxHeartbeats 1000000 in
theorem rbytes_any (n m : Nat) (w : World) (hn : n < 18446744073709551616) (h1 : 1 ≤ m) (h8 : m ≤ 8) (hfit : n < 2 ^ (8 * m)) :
    Calls Tryd.prog 26 #[.int .i64 (n : Int), .int .i64 (m : Int)] w fun e w' => ∃ v, e = .returned v ∧ RowR w' v (u8s (beBytes n m)) ∧ Below w.heap.size w w' := by
  have HP := hide (rput_ok n m w hn h1 h8 hfit)
  have hw : IntKind.u64.wrap (n : Int) = (n : Int) := by rw [IntKind.wrap_u64]; omega
  clear hfit
  go_enter Tryd.func26, Tryd.ntmps26
  go_wp2_with fail
  refine HP.out.mono ?_
  rintro e w1 ⟨v, rfl, ho, hb⟩
  have HO := hide (rowR_of_owns ho)
  have HB := hide hb
  clear ho hb HP
  go_wp2
  go_ret
  exact ⟨_, rfl, HO.out, HB.out⟩
theorem one_u8 (w : World) (c : UInt8) : RowR (w.alloc (.cells #[.int .u8 (c.toNat : Int)] 5)) (.slice (some ⟨w.heap.size, 0, none⟩) 1 1) (u8s [c]) := rowR_new w #[.int .u8 (c.toNat : Int)] 5
/-- One byte behind the others. -/
theorem push_u8 (base : Nat) (v : Value) (xs : List UInt8) (c : UInt8) (w : World) (hown : BO w base v xs) (hb : xs.length + 1 ≤ 140737488355328) (hbase : base ≤ w.heap.size) :
    ∃ a' c' w', (Builtin.append_ #[49, 49] 49 #[v, .slice (some ⟨w.heap.size, 0, none⟩) 1 1]).run Tryd.prog (w.alloc (.cells #[.int .u8 (c.toNat : Int)] 5)) = .ok (.slice a' (xs.length + 1) c') w' ∧ BO w' base (.slice a' (xs.length + 1) c') (xs ++ [c]) ∧ Below base w w' := by
  have hbn := below_new w (.cells #[.int .u8 (c.toNat : Int)] 5)
  obtain ⟨a', c', w2, hrun, hown2, hgr⟩ := append_bb base v _ xs [c] _ (hown.below hbn) (one_u8 w c) hb (Nat.le_trans hbase hbn.size)
  exact ⟨a', c', w2, hrun, hown2, ((Below.refl base w).trans (hbn.mono hbase)).grown hgr (Nat.le_trans hbase hbn.size) (fun k hk => (hown.lt k hk).1)⟩
set_option maxHeartbeats 4000000 in
theorem rtext_any (base : Nat) (v : Value) (xs : List UInt8) (s : ByteArray) (w : World) (hown : BO w base v xs) (hs : s.size ≤ 1073741824) (hx : xs.length ≤ 70368744177664) (hbase : base ≤ w.heap.size) :
    Calls Tryd.prog 27 #[v, .string s] w fun e w' => ∃ v', e = .returned v' ∧ BO w' base v' (xs ++ ptB [.ln s.size, .st s]) ∧ Below base w w' := by
  obtain ⟨x, d, hv⟩ := hown.form
  subst hv
  obtain ⟨m, hm⟩ : ∃ m, m = s.size := ⟨_, rfl⟩
  have HY := hide (rbytes_any m 4 w (by omega) (by decide) (by decide) (by omega))
  have HO := hide hown
  have HX := hide hx
  have HBS := hide hbase
  have HD : Hid (xs ++ ptB [.ln s.size, .st s] = (xs ++ beBytes m 4) ++ s.data.toList.take m) := by
    show _ = _
    have : s.data.toList.take m = s.data.toList := List.take_of_length_le (by rw [hm]; exact Nat.le_refl _)
    rw [this, hm]; simp [ptB, Part.bytes]
  have HSL : Hid (s.data.toList.length = m) := by show _ = _; rw [hm]; rfl
  obtain ⟨Q, hQ⟩ : ∃ Q : Ending → World → Prop, Q = fun e w' => ∃ v', e = .returned v' ∧ BO w' base v' (xs ++ ptB [.ln s.size, .st s]) ∧ Below base w w' := ⟨_, rfl⟩
  rw [← hQ]
  have HQ := hide hQ
  have HM := hide hm
  clear hQ hown hx hbase
  go_enter Tryd.func27, Tryd.ntmps27
  rw [hm] at HY
  go_wp2_with fail
  refine HY.out.mono ?_
  rw [← hm]
  rintro e w1 ⟨v1, rfl, hrow, hb1⟩
  obtain ⟨a2, c2, w2, hrun, ho2, hgr⟩ := append_bb base (.slice x xs.length d) v1 xs (beBytes m 4) w1 (HO.out.below hb1) hrow (by rw [beBytes_len m 4 (by decide)]; have := HX.out; omega) (Nat.le_trans HBS.out hb1.size)
  have HRUN := hide hrun
  have HO2 := hide ho2
  have HB2 : Hid (Below base w w2) := ((Below.refl base w).trans (hb1.mono HBS.out)).grown hgr (Nat.le_trans HBS.out hb1.size) (fun k hk => (HO.out.lt k hk).1)
  obtain ⟨ys, hys⟩ : ∃ ys, ys = xs ++ beBytes m 4 := ⟨_, rfl⟩
  have hyl : xs.length + (beBytes m 4).length = ys.length := by rw [hys, List.length_append]
  rw [← hys] at HO2 HD
  rw [hyl] at HRUN HO2
  have HYL : Hid (ys.length ≤ 70368744177664 + 4) := by show _ ≤ _; rw [← hyl, beBytes_len m 4 (by decide)]; have := HX.out; omega
  clear hrow hb1 hrun ho2 hgr HY hys hyl
  go_wp2_with (first | (at_builtin; refine wpList_append_run 49 rfl _ _ rfl rfl _ _ rfl rfl _ _ HRUN.out ?_))
  clear HRUN HO HX
  go_wp2
  go_loopw [0, 5] (fun p i wr => ∃ (k mm : Nat) (y : Option Addr) (f : Nat), k ≤ m ∧ i = .int .i64 k ∧ p = .slice y mm f ∧ mm = (ys ++ s.data.toList.take k).length ∧ BO wr base (.slice y mm f) (ys ++ s.data.toList.take k) ∧ Below base w wr) (fun _ i _ => m - (intOf i).toNat)
  case atStart => exact ⟨0, _, a2, c2, Nat.zero_le _, rfl, rfl, by simp, by simpa using HO2.out, HB2.out⟩
  case round =>
    obtain ⟨k, mm, y, f, hk, rfl, rfl, hmm, hown, hbw⟩ := hrel
    by_cases hlt : k < m
    · have hltI : (k : Int) < (m : Int) := by omega
      have j0 : (0 : Int) ≤ (k : Int) := by omega
      have hks : k < s.data.toList.length := by rw [HSL.out]; exact hlt
      have hkz : k < s.size := by rw [← HM.out]; exact hlt
      have HTK : Hid (ys ++ s.data.toList.take (k + 1) = (ys ++ s.data.toList.take k) ++ [s[k]]) := by
        have e : s.data.toList[k] = s[k] := rfl
        show _ = _; rw [List.take_add_one, List.getElem?_eq_getElem hks, e]; simp
      obtain ⟨zs, hzs⟩ : ∃ zs, zs = ys ++ s.data.toList.take k := ⟨_, rfl⟩
      have hzl : zs.length ≤ 70368744177664 + 4 + 1073741824 := by rw [hzs, List.length_append, List.length_take]; have := HYL.out; have := HM.out; omega
      rw [← hzs] at hmm hown HTK
      obtain ⟨a3, c3, w3, hrun, ho3, hb3⟩ := push_u8 base (.slice y mm f) zs s[k] wr hown (by omega) (Nat.le_trans HBS.out (by have := hbw.size; exact this))
      rw [← hmm] at hrun ho3
      have HRUN := hide hrun
      have HO3 := hide ho3
      have HB3 := hide (hbw.trans hb3)
      have HMM := hide hmm
      have hltI2 : (k : Int) < (s.size : Int) := by omega
      clear hrun ho3 hb3 hown hbw hzs hzl hmm
      go_wp2_with (first | (at_builtin; refine wpList_append_run 49 rfl _ _ rfl rfl _ _ rfl rfl _ _ HRUN.out ?_))
      go_wp2
      go_roundw
      case rel => exact ⟨k + 1, zs.length + 1, a3, c3, by omega, by go_num, by rw [HMM.out], by rw [HTK.out, List.length_append]; rfl, by rw [HTK.out, ← HMM.out]; exact HO3.out, HB3.out⟩
      case measure => simp [intOf]; omega
    · have hltI : ¬ (k : Int) < (m : Int) := by omega
      have hltI2 : ¬ (k : Int) < (s.size : Int) := by omega
      have hkm : k = m := by omega
      subst hkm
      have HOW : Hid (BO wr base (.slice y mm f) (xs ++ ptB [.ln s.size, .st s])) := by show BO _ _ _ _; rw [HD.out]; exact hown
      have HB := hide hbw
      clear hown hbw hmm
      go_wp2
      rw [HQ.out]
      exact ⟨_, rfl, HOW.out, HB.out⟩
end Go.Proofs.YtiihnoohodklhaaDoor
