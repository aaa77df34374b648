import Derived.Test.YtagldlchamlpdabDoorBase
import Derived.Test.YtagldlchamlpdabDoorBas2
import Derived.Test.YtagldlchamlpdabDoorRdStr
import Derived.Test.YtagldlchamlpdabDoorCStr
namespace Go.Proofs.YtagldlchamlpdabDoor
open Go.RowKit

def threeL (i : Nat) : List UInt8 := [UInt8.ofNat (97 + i / 676 % 26), UInt8.ofNat (97 + i / 26 % 26), UInt8.ofNat (97 + i % 26)]
def threeB (i : Nat) : ByteArray := ⟨(threeL i).toArray⟩

set_option maxRecDepth 20000 in
set_option maxHeartbeats 1000000 in
theorem three_any (i : Nat) (w : World) (hi : i < 1000) :
    Calls Tryd.prog 39 #[.int .i64 (i : Int)] w fun e w' => e = .returned (.string (threeB i)) ∧ Below w.heap.size w w' := by
  have hx := boxed_new w #[Value.int .u8 (97 + (i : Int) / 676 % 26), Value.int .u8 (97 + (i : Int) / 26 % 26), Value.int .u8 (97 + (i : Int) % 26)] 5
  have hq := below_new w (.cells #[Value.int .u8 (97 + (i : Int) / 676 % 26), Value.int .u8 (97 + (i : Int) / 26 % 26), Value.int .u8 (97 + (i : Int) % 26)] 5)
  obtain ⟨cc, hcc⟩ : ∃ cc, cc = threeB i := ⟨_, rfl⟩
  have cv : (convert 96 9 (.slice (some ⟨w.heap.size, 0, none⟩) 3 3)).run Tryd.prog (w.alloc (.cells #[Value.int .u8 (97 + (i : Int) / 676 % 26), Value.int .u8 (97 + (i : Int) / 26 % 26), Value.int .u8 (97 + (i : Int) % 26)] 5)) = .ok (.string cc) (w.alloc (.cells #[Value.int .u8 (97 + (i : Int) / 676 % 26), Value.int .u8 (97 + (i : Int) / 26 % 26), Value.int .u8 (97 + (i : Int) % 26)] 5)) := by
    rw [hcc]
    refine run_str _ _ (threeL i) ⟨_, _, rfl, fun j hj => ⟨_, 0, rfl, ?_⟩⟩ (by simp [threeL])
    have hj3 : j < 3 := hj
    rw [Nat.zero_add]
    have e := hx.2 j hj3
    rw [e]
    match j, hj3 with
    | 0, _ => simp [threeL]; omega
    | 1, _ => simp [threeL]; omega
    | 2, _ => simp [threeL]; omega
  have HCC := hide hcc
  have HQ := hide hq
  clear hx hq hcc
  go_enter Tryd.func39, Tryd.ntmps39
  go_wp2
  go_ret
  exact ⟨by rw [← HCC.out]; rfl, HQ.out⟩

set_option maxRecDepth 20000 in
set_option maxHeartbeats 1000000 in
theorem kpick_any (i : Int) (n : Nat) (w : World) (hn : 1 ≤ n) (hnb : n ≤ 1000000) (_hi : -9223372036854775808 ≤ i ∧ i ≤ 9223372036854775807) :
    Calls Tryd.prog 15 #[.int .i64 i, .int .i64 (n : Int)] w fun e w' => ∃ k : Nat, k < n ∧ e = .returned (.int .i64 (k : Int)) ∧ w = w' := by
  have hn1 : ¬ (n : Int) < 1 := by omega
  obtain ⟨r, hr⟩ : ∃ r, r = Int.tmod i (n : Int) := ⟨_, rfl⟩
  have hr' : Int.tmod i (n : Int) = r := hr.symm
  have hlt := Int.tmod_lt_of_pos i (show (0 : Int) < (n : Int) by omega)
  have hgt := Int.lt_tmod_of_pos i (show (0 : Int) < (n : Int) by omega)
  rw [hr'] at hlt hgt
  have hn0 : ¬ (n : Int) = 0 := by omega
  clear hr
  by_cases h0 : r < 0
  · have hw : IntKind.i64.wrap (r + (n : Int)) = r + (n : Int) := by rw [IntKind.wrap_i64]; omega
    go_enter Tryd.func15, Tryd.ntmps15
    go_wp2
    go_ret
    exact ⟨(r + (n : Int)).toNat, by omega, by rw [show (((r + (n : Int)).toNat : Nat) : Int) = r + (n : Int) by omega]; rfl, rfl⟩
  · go_enter Tryd.func15, Tryd.ntmps15
    go_wp2
    go_ret
    exact ⟨r.toNat, by omega, by rw [show ((r.toNat : Nat) : Int) = r by omega]; rfl, rfl⟩

def headB (s : ByteArray) : ByteArray := if s.size ≤ 252 then s else s.extract 0 252
theorem headB_size (s : ByteArray) : (headB s).size ≤ 252 := by
  unfold headB; split
  · assumption
  · rw [ByteArray.size_extract]; omega
set_option maxHeartbeats 1000000 in
theorem head_any (s : ByteArray) (w : World) :
    Calls Tryd.prog 40 #[.string s, .int .i64 252] w fun e w' => e = .returned (.string (headB s)) ∧ w = w' := by
  by_cases h : s.size ≤ 252
  · have hh : headB s = s := by unfold headB; rw [if_pos h]
    rw [hh]
    have hI : (s.size : Int) ≤ 252 := by omega
    clear hh
    go_enter Tryd.func40, Tryd.ntmps40
    go_wp2
    go_ret
    exact ⟨rfl, rfl⟩
  · have hh : headB s = s.extract 0 252 := by unfold headB; rw [if_neg h]
    rw [hh]
    have hI : ¬ (s.size : Int) ≤ 252 := by omega
    have hI2 : (252 : Int) ≤ (s.size : Int) := by omega
    clear hh
    go_enter Tryd.func40, Tryd.ntmps40
    go_wp2
    go_ret
    exact ⟨rfl, rfl⟩

end Go.Proofs.YtagldlchamlpdabDoor
