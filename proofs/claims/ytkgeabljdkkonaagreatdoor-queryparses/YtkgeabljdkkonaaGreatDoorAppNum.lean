import Derived.Test.YtkgeabljdkkonaaGreatDoorGD
import Derived.Test.YtkgeabljdkkonaaGreatDoorGB
namespace Go.Proofs.YtkgeabljdkkonaaGreatDoor
open Go.RowKit

set_option maxHeartbeats 400000 in
theorem appNum_any (base : Nat) (num : Int) (h1 : -9223372036854775808 ≤ num) (h2 : num ≤ 9223372036854775807) (o : List UInt8) (v : Value) (w : World) (hbase : base ≤ w.heap.size)
    (ho : w.ownsRow base 5 1 v o.length (u8s o)) (hsz : o.length ≤ 100000000000000) :
    Calls Tryz.prog 110 #[v, .int .i64 num] w fun e w' => ∃ v', e = .returned v' ∧ w'.ownsRow base 5 1 v' (o ++ num8 num).length (u8s (o ++ num8 num)) ∧ Below base w w' := by
  obtain ⟨i0, hi, hz0, hz1, hz2⟩ := info_parts Tryz.info5
  go_enter Tryz.func110, Tryz.ntmps110
  go_wp2_with fail
  rw [bias_eq num h1 h2]
  have HM : Hid (num8 num = be8 (biased num)) := rfl
  have hM := biased_lt num h1 h2
  generalize biased num = M at *
  go_loopw [0, 6] (fun v i wr => ∃ (k : Nat) (p : List UInt8), k ≤ 8 ∧ i = .int .i64 (7 - (k : Int)) ∧ p = o ++ (be8 M).take k ∧ wr.ownsRow base 5 1 v p.length (u8s p) ∧ Below base w wr) (fun _ i _ => (intOf i + 1).toNat)
  case atStart => exact ⟨0, o, Nat.zero_le _, by go_num, by simp, ho, Below.refl _ _⟩
  case round =>
    obtain ⟨k, p, hk, rfl, hp, hown, hbl⟩ := hrel
    have hbs := hbl.size
    have hpl : p.length = o.length + k := by rw [hp, List.length_append, List.length_take]; simp [be8]; omega
    have HP : Hid (p = o ++ (be8 M).take k) := hp
    have hpb : p.length ≤ o.length + 8 := by omega
    clear hp hpl ho
    by_cases hlt : k < 8
    · obtain ⟨j, hj⟩ : ∃ j : Nat, (7 : Int) - k = (j : Int) := ⟨7 - k, by omega⟩
      rw [hj]
      have hv := dig_val M j
      have HS : Hid (p ++ [byteAt M j] = o ++ (be8 M).take (k + 1)) := by
        show _ = _
        rw [be8_take M k hlt, HP.out, List.append_assoc, show 7 - k = j by omega]
      have HJ : Hid ((7 : Int) - k = (j : Int)) := hj
      have hj8 : j < 8 := by omega
      have j0 : (0 : Int) ≤ (j : Int) := Int.natCast_nonneg j
      clear hj
      generalize byteAt M j = dg at *
      go_wp2_with (first
          | (at_builtin; refine wpList_append_lies _ rfl _ _ 108 rfl base 5 i0 (.int .u8 0) 1 1 Tryz.underlying108 hi hz0 hz1 hz2 rfl (by decide) _ _ _ rfl (hown.alloc _) ⟨wr.heap.size, 0, none⟩ 1 1 [.int .u8 (dg.toNat : Int)] rfl rfl ?c1 ?c2 ?c3 ?c4 ?c5 ?c6 (wr.heap.size + 1) ?c7 ?_))
      case c1 => exact World.news_of_block (heap_alloc_new wr (.cells #[.int .u8 (dg.toNat : Int)] 5))
      case c2 => intro u hu; simp at hu; subst hu; rfl
      case c3 => decide
      case c4 => unfold maxLen; omega
      case c5 => omega
      case c6 => simp; omega
      case c7 => simp
      intro g cap w1 hown' hgrow hat hlg
      obtain ⟨hown2, hb1⟩ := pushed (es := [dg]) (by omega) hown hown' hgrow
      have HB : Hid (Below base w w1) := hbl.trans hb1
      have HO : Hid (w1.ownsRow base 5 1 (.slice (some ⟨g, 0, none⟩) (p.length + 1) cap) (p ++ [dg]).length (u8s (p ++ [dg]))) := hown2
      clear hown' hgrow hown hat hlg hbl hb1 hown2
      go_wp2_with fail
      go_roundw
      case rel => exact ⟨k + 1, p ++ [dg], by omega, by have := HJ.out; go_num, HS.out, HO.out, HB.out⟩
      case measure => simp [intOf]
    · have hke : k = 8 := by omega
      subst hke
      have HF : Hid (p = o ++ num8 num) := by
        show p = _
        rw [HP.out, HM.out, List.take_of_length_le (by simp [be8])]
      clear HP
      go_wp2_with fail
      go_ret
      exact ⟨_, rfl, by rw [← HF.out]; exact hown, hbl⟩

end Go.Proofs.YtkgeabljdkkonaaGreatDoor
