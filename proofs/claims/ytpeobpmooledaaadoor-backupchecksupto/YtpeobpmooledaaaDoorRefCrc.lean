import Derived.Test.YtpeobpmooledaaaDoorGS
namespace Go.Proofs.YtpeobpmooledaaaDoor
open Go.RowKit

theorem bsteps_succ' (n y : Nat) : bsteps (n + 1) y = bstep (bsteps n y) := by
  rw [bsteps_add n 1]; rfl
theorem and1 (y : Nat) (hy : y < 4294967296) : bits BinOp.and IntKind.u32 (y : Int) 1 = ((y % 2 : Nat) : Int) := by
  have := u32_and_nat y 1 hy (by omega)
  rw [nat_mask1] at this
  exact this
theorem xorM (y : Nat) (hy : y < 4294967296) : bits BinOp.xor IntKind.u32 (y : Int) 4294967295 = ((nt y : Nat) : Int) := by
  have := u32_xor_nat y 4294967295 hy (by omega)
  rw [Nat.xor_comm, nt_xor y hy] at this
  exact this
theorem xorP (y : Nat) (hy : y < 4294967296) (h : y % 2 = 1) : bits BinOp.xor IntKind.u32 ((y : Int) / 2) 2197175160 = ((bstep y : Nat) : Int) := by
  have := u32_xor_nat (y / 2) 2197175160 (by omega) (by omega)
  rw [← show (((y / 2 : Nat) : Nat) : Int) = (y : Int) / 2 from by omega]
  unfold bstep
  rw [if_pos h]
  exact this
theorem bstep_even (y : Nat) (h : ¬ y % 2 = 1) : bstep y = y / 2 := by unfold bstep; rw [if_neg h]

set_option maxHeartbeats 400000 in
theorem refMore_ne (x : Nat) (b off len cap : Nat) (l : List UInt8) (w : World) (hx : x < 4294967296) (hlen : l.length = len) (hm : len ≤ 140737488355328)
    (hc : ∀ j (h : j < l.length), w.cell? ⟨b, off + j, none⟩ = some (.int .u8 (l[j].toNat : Int))) :
    Calls Tryd.prog 41 #[.int .u32 (x : Int), .slice (some ⟨b, off, none⟩) len cap] w fun e w' => e = .returned (.int .u32 ((nt (crcReg (nt x) l) : Nat) : Int)) ∧ w = w' := by
  have hnt := xorM x hx
  have hy : nt x < 4294967296 := nt_lt x
  go_enter Tryd.func41, Tryd.ntmps41
  go_wp2
  go_loop [5, 6] (fun r i => ∃ k y : Nat, k ≤ len ∧ y < 4294967296 ∧ i = .int .i64 k ∧ r = .int .u32 (y : Int) ∧ y = crcReg (nt x) (l.take k)) (fun _ i => len - (intOf i).toNat)
  case atStart => exact ⟨0, nt x, Nat.zero_le _, hy, rfl, rfl, rfl⟩
  case round =>
    obtain ⟨k, y, hk, hy, rfl, rfl, hyr⟩ := hrel
    have HY : Hid (y = crcReg (nt x) (l.take k)) := hyr
    clear hyr
    by_cases hlt : k < len
    · have hck := hc k (by omega)
      obtain ⟨c, hcd⟩ : ∃ c : Nat, c = (l[k]'(by omega)).toNat := ⟨_, rfl⟩
      have hc256 : c < 256 := by rw [hcd]; exact UInt8.toNat_lt _
      rw [← hcd] at hck
      have HC : Hid (c = (l[k]'(by omega)).toNat) := hcd
      have hcm : (c : Int) % 4294967296 = (c : Int) := by omega
      obtain ⟨y1, hy1⟩ : ∃ y1 : Nat, y1 = y ^^^ c := ⟨_, rfl⟩
      have hy1b : y1 < 4294967296 := by rw [hy1]; exact Nat.xor_lt_two_pow (n := 32) hy (by omega)
      have e1 : bits BinOp.xor IntKind.u32 (y : Int) (c : Int) = (y1 : Int) := by rw [hy1]; exact u32_xor_nat y c hy (by omega)
      have HR : Hid (bsteps 8 y1 = crcReg (nt x) (l.take (k + 1))) := by
        show bsteps 8 y1 = _
        rw [take_next l k (by omega), crcReg_snoc, ← HY.out, ← HC.out, crcByte_eq, hy1]
      clear hy1 hcd hc
      go_wp2
      go_loop [5, 7] (fun r i => ∃ m z : Nat, m ≤ 8 ∧ z < 4294967296 ∧ i = .int .i64 m ∧ r = .int .u32 (z : Int) ∧ z = bsteps m y1) (fun _ i => 8 - (intOf i).toNat)
      case atStart => exact ⟨0, y1, by omega, hy1b, rfl, rfl, rfl⟩
      case round =>
        obtain ⟨m, z, hm8, hz, rfl, rfl, hzr⟩ := hrel
        have HZ : Hid (z = bsteps m y1) := hzr
        clear hzr
        by_cases hlt8 : m < 8
        · have e2 := and1 z hz
          have HN : Hid (bstep z = bsteps (m + 1) y1) := by
            show bstep z = _
            rw [bsteps_succ', ← HZ.out]
          have hbl := bstep_lt z hz
          by_cases hodd : z % 2 = 1
          · have e3 := xorP z hz hodd
            go_wp2
            go_round
            case rel => exact ⟨m + 1, bstep z, by omega, hbl, by go_num, rfl, HN.out⟩
            case measure => simp [intOf]; omega
          · have e3 := bstep_even z hodd
            have HE : Hid (bstep z = z / 2) := e3
            clear e3
            go_wp2
            go_round
            case rel => exact ⟨m + 1, z / 2, by omega, by omega, by go_num, by go_num, by rw [← HE.out]; exact HN.out⟩
            case measure => simp [intOf]; omega
        · have HF : Hid (z = crcReg (nt x) (l.take (k + 1))) := by
            show z = _
            rw [HZ.out, ← HR.out, show m = 8 by omega]
          go_wp2
          go_round
          case rel => exact ⟨k + 1, z, by omega, hz, by go_num, rfl, HF.out⟩
          case measure => simp [intOf]; omega
    · have hke : l.take k = l := List.take_of_length_le (by omega)
      have hnt2 := xorM y hy
      have HE : Hid (y = crcReg (nt x) l) := by
        show y = _
        rw [HY.out, hke]
      clear hke hc
      go_wp2
      go_ret
      exact ⟨ret_nat (congrArg nt HE.out), rfl⟩

set_option maxHeartbeats 400000 in
theorem refMore_nil (x : Nat) (w : World) (hx : x < 4294967296) :
    Calls Tryd.prog 41 #[.int .u32 (x : Int), .slice none 0 0] w fun e w' => e = .returned (.int .u32 ((nt (nt x) : Nat) : Int)) ∧ w = w' := by
  have hnt := xorM x hx
  have hnt2 := xorM (nt x) (nt_lt x)
  go_enter Tryd.func41, Tryd.ntmps41
  go_wp2
  go_loop [5, 6] (fun r i => i = .int .i64 0 ∧ r = .int .u32 (nt x : Int)) (fun _ _ => 0)
  case atStart => exact ⟨rfl, rfl⟩
  case round =>
    obtain ⟨rfl, rfl⟩ := hrel
    go_wp2
    go_ret
    exact ⟨rfl, rfl⟩

theorem refMore_rd (x : Nat) (X : Int) (v : Value) (l : List UInt8) (w : World) (hX : X = (x : Int)) (hx : x < 4294967296) (hm : l.length ≤ 140737488355328) (hr : Rd w v l) :
    Calls Tryd.prog 41 #[.int .u32 X, v] w fun e w' => e = .returned (.int .u32 ((nt (crcReg (nt x) l) : Nat) : Int)) ∧ w = w' := by
  subst hX
  rcases hr with ⟨rfl, rfl⟩ | ⟨g, cap, rfl, h1, h2, h3, h4⟩
  · exact refMore_nil x w hx
  · exact refMore_ne x g 0 l.length cap l w hx rfl hm (fun j hj => by rw [Nat.zero_add]; exact h4 j hj)

set_option maxHeartbeats 400000 in
theorem ref_rd (v : Value) (l : List UInt8) (w : World) (hm : l.length ≤ 140737488355328) (hr : Rd w v l) :
    Calls Tryd.prog 28 #[v] w fun e w' => e = .returned (.int .u32 ((crcV l : Nat) : Int)) ∧ w = w' := by
  have H := refMore_rd 0 0 v l w rfl (by decide) hm hr
  have HH : Hid (Calls Tryd.prog 41 #[.int .u32 0, v] w fun e w' => e = .returned (.int .u32 ((nt (crcReg (nt 0) l) : Nat) : Int)) ∧ w = w') := H
  clear H hr
  go_enter Tryd.func28, Tryd.ntmps28
  go_wp2_with (go_at_call 41; refine HH.out.mono ?_; rintro e w' ⟨rfl, rfl⟩)
  go_ret
  exact ⟨rfl, rfl⟩

end Go.Proofs.YtpeobpmooledaaaDoor
