import Derived.Test.YtddhjnfcbpookaaDoorAppItem
namespace Go.Proofs.YtddhjnfcbpookaaDoor
open Go.RowKit

set_option maxHeartbeats 400000 in
theorem rnum_any (num : Int) (h1 : -9223372036854775808 ≤ num) (h2 : num ≤ 9223372036854775807) (w : World) :
    Calls Tryd.prog 77 #[.int .i64 num] w fun e w' => ∃ v', e = .returned v' ∧ w'.ownsRow w.heap.size 5 1 v' (num8 num).length (u8s (num8 num)) ∧ Below w.heap.size w w' := by
  obtain ⟨i0, hi, hz0, hz1, hz2⟩ := info_parts Tryd.info5
  go_enter Tryd.func77, Tryd.ntmps77
  go_wp2_with fail
  rw [bias_eq num h1 h2]
  have HM : Hid (num8 num = be8 (biased num)) := rfl
  have hM := biased_lt num h1 h2
  generalize biased num = M at *
  go_loopw [4, 5] (fun v i wr => ∃ (k : Nat) (p : List UInt8), k ≤ 8 ∧ i = .int .i64 (7 - (k : Int)) ∧ p = (be8 M).take k ∧ wr.ownsRow w.heap.size 5 1 v p.length (u8s p) ∧ Below w.heap.size w wr) (fun _ i _ => (intOf i + 1).toNat)
  case atStart => exact ⟨0, [], Nat.zero_le _, by go_num, by simp, World.ownsRow_nil _ _ _ _, Below.refl _ _⟩
  case round =>
    obtain ⟨k, p, hk, rfl, hp, hown, hbl⟩ := hrel
    have hbs := hbl.size
    have hpl : p.length = k := by rw [hp, List.length_take]; simp [be8]; omega
    have HP : Hid (p = (be8 M).take k) := hp
    have hpb : p.length ≤ 8 := by omega
    clear hp hpl
    by_cases hlt : k < 8
    · obtain ⟨j, hj⟩ : ∃ j : Nat, (7 : Int) - k = (j : Int) := ⟨7 - k, by omega⟩
      rw [hj]
      have hv := dig_val M j
      have HS : Hid (p ++ [byteAt M j] = (be8 M).take (k + 1)) := by
        show _ = _
        rw [be8_take M k hlt, HP.out, show 7 - k = j by omega]
      have HJ : Hid ((7 : Int) - k = (j : Int)) := hj
      have hj8 : j < 8 := by omega
      have j0 : (0 : Int) ≤ (j : Int) := Int.natCast_nonneg j
      have hm1 : p.length + 1 ≤ maxLen := by unfold maxLen; omega
      have hm2 : (p.length + 1) * 1 ≤ 140737488355328 := by omega
      clear hj
      generalize byteAt M j = dg at *
      go_wp2_with (first
        | (at_builtin; refine wpList_append_lies _ rfl _ _ 79 rfl w.heap.size 5 i0 (.int .u8 0) 1 1 Tryd.underlying79 hi hz0 hz1 hz2 rfl (by decide) _ _ _ rfl (hown.alloc _) ⟨wr.heap.size, 0, none⟩ 1 1 [.int .u8 (dg.toNat : Int)] rfl rfl (news1 _ (wr.heap.size) (dg.toNat : Int) (by simp)) (u8s_single _) (by decide) hm1 hm2 (by simp; omega) (wr.heap.size + 1) (by simp) ?_))
      intro g cap w1 hown' hgrow hat hlg
      obtain ⟨hown2, hb1⟩ := pushed (es := [dg]) (by omega) hown hown' hgrow
      have HB : Hid (Below w.heap.size w w1) := hbl.trans hb1
      have HO : Hid (w1.ownsRow w.heap.size 5 1 (.slice (some ⟨g, 0, none⟩) (p.length + 1) cap) (p ++ [dg]).length (u8s (p ++ [dg]))) := hown2
      clear hown' hgrow hown hat hlg hbl hb1 hown2
      go_wp2_with fail
      go_roundw
      case rel => exact ⟨k + 1, p ++ [dg], by omega, by have := HJ.out; go_num, HS.out, HO.out, HB.out⟩
      case measure => simp [intOf]
    · have hke : k = 8 := by omega
      subst hke
      have HF : Hid (p = num8 num) := by
        show p = _
        rw [HP.out, HM.out, List.take_of_length_le (by simp [be8])]
      clear HP
      go_wp2_with fail
      go_ret
      exact ⟨_, rfl, by rw [← HF.out]; exact hown, hbl⟩

set_option maxHeartbeats 1000000 in
theorem rtext_any (s : ByteArray) (w : World) (hsz : (encT s.data.toList).length ≤ 100000000000000) :
    Calls Tryd.prog 78 #[.string s] w fun e w' => ∃ v', e = .returned v' ∧ w'.ownsRow w.heap.size 5 1 v' (encT s.data.toList).length (u8s (encT s.data.toList)) ∧ Below w.heap.size w w' := by
  obtain ⟨i0, hi, hz0, hz1, hz2⟩ := info_parts Tryd.info5
  have hss : s.size ≤ 100000000000000 := by
    have h1 := escL_len s.data.toList
    have h2 : s.data.toList.length = s.size := by simp
    unfold encT at hsz
    rw [List.length_append] at hsz
    omega
  go_enter Tryd.func78, Tryd.ntmps78
  go_wp2_with fail
  go_loopw [3, 4] (fun v i wr => ∃ (k : Nat) (p : List UInt8), k ≤ s.size ∧ i = .int .i64 k ∧ p = escL (s.data.toList.take k) ∧ wr.ownsRow w.heap.size 5 1 v p.length (u8s p) ∧ Below w.heap.size w wr) (fun _ i _ => s.size - (intOf i).toNat)
  case atStart => exact ⟨0, [], Nat.zero_le _, rfl, by simp [escL], World.ownsRow_nil _ _ _ _, Below.refl _ _⟩
  case round =>
    obtain ⟨k, p, hk, rfl, hp, hown, hbl⟩ := hrel
    have hbs := hbl.size
    have hpb : p.length ≤ 100000000000000 - 2 := by
      have h2 := escL_take_le s.data.toList k
      unfold encT at hsz
      rw [List.length_append] at hsz
      simp only [List.length_cons, List.length_nil] at hsz
      rw [hp]
      omega
    have HP : Hid (p = escL (s.data.toList.take k)) := hp
    clear hp hsz
    have hm1 : p.length + 1 ≤ maxLen := by unfold maxLen; omega
    have hm2 : (p.length + 1) * 1 ≤ 140737488355328 := by omega
    by_cases hlt : k < s.size
    · have hkl : k < s.data.toList.length := by simpa using hlt
      have HS : Hid (escL (s.data.toList.take (k + 1)) = escL (s.data.toList.take k) ++ (if s[k] = 0 then [0, 255] else [s[k]])) := escL_take s.data.toList k hkl
      have j0 : (0 : Int) ≤ (k : Int) := Int.natCast_nonneg _
      have j1 : (k : Int) < (s.size : Int) := by omega
      obtain ⟨x, hx⟩ : ∃ x : UInt8, x = s[k] := ⟨_, rfl⟩
      have hxx : s[k] = x := hx.symm
      rw [← hx] at HS
      clear hx
      go_wp2_with (first
        | (at_builtin; refine wpList_append_lies _ rfl _ _ 79 rfl w.heap.size 5 i0 (.int .u8 0) 1 1 Tryd.underlying79 hi hz0 hz1 hz2 rfl (by decide) _ _ _ rfl (hown.alloc _) ⟨wr.heap.size, 0, none⟩ 1 1 [.int .u8 (x.toNat : Int)] rfl rfl (news1 _ (wr.heap.size) (x.toNat : Int) (by simp)) (u8s_single _) (by decide) hm1 hm2 (by simp; omega) (wr.heap.size + 1) (by simp) ?_))
      intro g cap w1 hown' hgrow hat hlg
      obtain ⟨hown2, hb1⟩ := pushed (es := [x]) (by omega) hown hown' hgrow
      have hb2 : Below w.heap.size w w1 := hbl.trans hb1
      have hbs2 := hb2.size
      clear hown' hgrow hown hat hlg hbl hb1
      by_cases hx0 : x = 0
      · subst hx0
        have HQ : Hid ((p ++ [0]) ++ [255] = escL (s.data.toList.take (k + 1))) := by
          show _ = _
          rw [HS.out, if_pos rfl, List.append_assoc, HP.out]; rfl
        have hown : w1.ownsRow w.heap.size 5 1 (.slice (some ⟨g, 0, none⟩) (p.length + 1) cap) (p ++ [0]).length (u8s (p ++ [0])) := hown2
        have hl2 : (p ++ [0]).length = p.length + 1 := by simp
        have hn1 : (p ++ [0]).length + 1 ≤ maxLen := by rw [hl2]; unfold maxLen; omega
        have hn2 : ((p ++ [0]).length + 1) * 1 ≤ 140737488355328 := by rw [hl2]; omega
        have HL2 : Hid ((p ++ [0]).length = p.length + 1) := hl2
        clear hown2 HP HS hl2
        go_wp2_with (first
          | (at_builtin; refine wpList_append_lies _ rfl _ _ 79 rfl w.heap.size 5 i0 (.int .u8 0) 1 1 Tryd.underlying79 hi hz0 hz1 hz2 rfl (by decide) _ _ _ rfl (hown.alloc _) ⟨w1.heap.size, 0, none⟩ 1 1 [.int .u8 255] rfl rfl (news1 _ (w1.heap.size) 255 (by simp)) (u8s_single _) (by decide) hn1 hn2 (by simp; omega) (w1.heap.size + 1) (by simp) ?_))
        intro g2 cap2 w3 hown' hgrow hat hlg
        obtain ⟨hown2, hb1⟩ := pushed (es := [255]) (by omega) hown (by first | exact hown' | (rw [HL2.out]; exact hown')) hgrow
        have HB : Hid (Below w.heap.size w w3) := hb2.trans hb1
        have HO := hown2
        clear hown' hgrow hown hat hlg hb2 hb1
        go_wp2_with fail
        go_roundw
        case rel => exact ⟨k + 1, (p ++ [0]) ++ [255], by omega, by go_num, HQ.out, HO, HB.out⟩
        case measure => simp [intOf]; omega
      · have HQ : Hid (p ++ [x] = escL (s.data.toList.take (k + 1))) := by
          show _ = _
          rw [HS.out, if_neg hx0, HP.out]
        have hx1 : ((x.toNat : Int) == 0) = false := by
          simp; intro e; exact hx0 (UInt8.toNat_inj.1 (by rw [e]; rfl))
        have HO : Hid (w1.ownsRow w.heap.size 5 1 (.slice (some ⟨g, 0, none⟩) (p.length + 1) cap) (p ++ [x]).length (u8s (p ++ [x]))) := hown2
        clear hown2 HP HS
        go_wp2_with fail
        go_roundw
        case rel => exact ⟨k + 1, p ++ [x], by omega, by go_num, HQ.out, HO.out, hb2⟩
        case measure => simp [intOf]; omega
    · have hke : k = s.size := by omega
      have HQ : Hid (p ++ [0, 0] = encT s.data.toList) := by
        show _ = _
        rw [HP.out, List.take_of_length_le (by simp; omega)]; rfl
      subst hke
      have hn1 : p.length + 2 ≤ maxLen := by unfold maxLen; omega
      have hn2 : (p.length + 2) * 1 ≤ 140737488355328 := by omega
      clear HP
      go_wp2_with (first
        | (at_builtin; refine wpList_append_lies _ rfl _ _ 79 rfl w.heap.size 5 i0 (.int .u8 0) 1 1 Tryd.underlying79 hi hz0 hz1 hz2 rfl (by decide) _ _ _ rfl (hown.alloc _) ⟨wr.heap.size, 0, none⟩ 2 2 [.int .u8 0, .int .u8 0] rfl rfl (World.news_of_block (heap_alloc_new wr (.cells #[.int .u8 0, .int .u8 0] 5))) (u8s_two 0 0) (by decide) hn1 hn2 (by simp; omega) (wr.heap.size + 1) (by simp) ?_))
      intro g cap w1 hown' hgrow hat hlg
      obtain ⟨hown2, hb1⟩ := pushed (es := [0, 0]) (by omega) hown hown' hgrow
      have hb2 : Below w.heap.size w w1 := hbl.trans hb1
      clear hown' hgrow hown hat hlg hbl hb1
      go_wp2_with fail
      go_ret
      exact ⟨_, rfl, by rw [← HQ.out]; exact hown2, hb2⟩

end Go.Proofs.YtddhjnfcbpookaaDoor
