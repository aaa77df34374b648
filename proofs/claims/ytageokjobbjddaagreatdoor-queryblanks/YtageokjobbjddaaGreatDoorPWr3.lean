import Derived.Test.YtageokjobbjddaaGreatDoorPWr2
import Derived.Deep.RegionLaw
namespace Go.Proofs.YtageokjobbjddaaGreatDoor
open Go.RowKit

theorem step_append_run2 {ops : Array Oper} {o : Oper} {a : Act} {w : World} {K : Act → World → Prop} {Q : Exit → Act → World → Prop} {E : Prop} (t : TypeId) (hgd : o.guard = none) (d x : Operand)
    (ho : o.op = .call { callee := .builtin .append, args := #[d, x], argTypes := #[t, t] }) (hty : o.type = t) (vd vx : Value) (hd : a.eval d = vd) (hx : a.eval x = vx) (v : Value) (w' : World)
    (hrun : (Builtin.append_ #[t, t] t #[vd, vx]).run Tryz.prog w = .ok v w') (h : K (a.put o.dst v) w') : if Region.wanted o (yielded ops a.tmps) = true then Oper.wp Tryz.prog o a w K Q else E := by
  have hw : Region.wanted o (yielded ops a.tmps) = true := by simp [Region.wanted, hgd]
  rw [if_pos hw]
  unfold Oper.wp
  simp [execOp, ho, resolve, invoke, builtin, hd, hx, hty, hrun, Result.andThen]
  exact h
theorem and15 : ∀ x : Fin 256, bits BinOp.and IntKind.u8 (x.1 : Int) 15 = ((x.1 % 16 : Nat) : Int) := by decide +kernel
theorem quotedL_le (s : ByteArray) : (quotedL s).length ≤ 4 * s.size + 2 := by
  have := quoL_len s.data.toList
  rw [q_len] at this
  simp only [quotedL, List.length_cons, List.length_append, List.length_nil]
  omega
set_option maxHeartbeats 4000000 in
set_option maxRecDepth 100000 in
theorem papt_any (s : ByteArray) (o : List UInt8) (v : Value) (base : Nat) (w : World) (hs : s.size ≤ 20000000) (hv : Byt w base v o) (hbase : base ≤ w.heap.size) (hlen : o.length ≤ 99999000000000) :
    Calls Tryz.prog 61 #[v, .string s] w fun e w' => WrP w base (o ++ quotedL s) e w' := by
  obtain ⟨va, vc, hf⟩ := hv.form
  subst hf
  obtain ⟨T, hT⟩ : ∃ T, T = o ++ quotedL s := ⟨_, rfl⟩
  rw [← hT]
  have HT : Hid (T = o ++ 34 :: (quoL s.data.toList ++ [34])) := hT
  obtain ⟨a1, c1, w1, hr1, hb1, hbl1⟩ := byt_push hv [34] #[.int .u8 34] 1 rfl rfl (by decide) (by omega) hbase w.heap.size rfl
  have HRUN := hide hr1
  have HB1 := hide hb1
  have HBL1 := hide hbl1
  obtain ⟨o1, ho1⟩ : ∃ o1, o1 = o ++ [34] := ⟨_, rfl⟩
  rw [← ho1] at HRUN HB1
  have HO1 := hide ho1
  have HOL : Hid (o1.length ≤ 99999000000001) := by show _ ≤ _; rw [ho1]; simp; omega
  clear hr1 hb1 hbl1 hv hT ho1
  go_enter Tryz.func61, Tryz.ntmps61
  go_wp2_with (first
    | (at_builtin; refine wpList_append_run2 48 48 rfl _ _ rfl rfl _ _ rfl rfl _ _ HRUN.out ?_)
    | fail)
  clear HRUN
  go_loopw [0, 12] (fun ov iv wr => ∃ (k : Nat) (t : List UInt8) (a : Option Addr) (c : Nat), ov = .slice a t.length c ∧ iv = .int .i64 (k : Int) ∧ k ≤ s.size ∧ Hid (t = o1 ++ quoL (s.data.toList.take k)) ∧ Hid (Byt wr base (.slice a t.length c) t) ∧ Hid (Gr base w wr)) (fun _ iv _ => s.size - (intOf iv).toNat)
  case atStart => exact ⟨0, o1, a1, c1, rfl, rfl, Nat.zero_le _, by show _ = _; simp [quoL], HB1.out, HBL1.out⟩
  case round =>
    obtain ⟨k, t, a, c, rfl, rfl, hk, ht, hb, hbl⟩ := hrel
    have hq := quoL_len (s.data.toList.take k)
    have htl : t.length ≤ 99999100000001 := by
      have h1 := HOL.out
      rw [ht.out, List.length_append]
      rw [List.length_take, q_len] at hq
      omega
    have hbs : base ≤ wr.heap.size := Nat.le_trans hbase hbl.out.size
    by_cases hlt : k < s.size
    · have hltI : (k : Int) < (s.size : Int) := by omega
      have e0 : (0 : Int) ≤ (k : Int) := by omega
      have HTK : Hid (quoL (s.data.toList.take (k + 1)) = quoL (s.data.toList.take k) ++ quoB (s[k]'hlt)) := quoL_take s.data.toList k (by rw [q_len]; exact hlt)
      have HJ : Hid (k + 1 ≤ s.size) := by show _ ≤ _; omega
      obtain ⟨x, hx⟩ : ∃ x : UInt8, x = s[k]'hlt := ⟨_, rfl⟩
      have hxx : s[k]'hlt = x := hx.symm
      rw [← hx] at HTK
      clear hx
      by_cases hns : x.toNat < 32 ∨ 126 < x.toNat
      · obtain ⟨hi', hhi⟩ : ∃ hi', hi' = x.toNat / 16 := ⟨_, rfl⟩
        obtain ⟨lo, hlo⟩ : ∃ lo, lo = x.toNat % 16 := ⟨_, rfl⟩
        have hb8 := x.toNat_lt
        have hsh : (x.toNat : Int) / 16 = (hi' : Int) := by omega
        have hsl : bits BinOp.and IntKind.u8 (x.toNat : Int) 15 = (lo : Int) := by rw [hlo]; exact and15 ⟨x.toNat, hb8⟩
        have i1 : hi' < 16 := by omega
        have i2 : lo < 16 := by omega
        have hq2 : quoB x = [92, 120, digB[hi']'i1, digB[lo]'i2] := by
          unfold quoB
          rw [if_pos hns, ← hhi, ← hlo, dig_hex ⟨hi', i1⟩, dig_hex ⟨lo, i2⟩]
        obtain ⟨a3, c3, w3, hr3, hb3, hbl3⟩ := byt_push (w := wr.drew) (o := t) (base := base) hb.out [92, 120, digB[hi']'i1, digB[lo]'i2] #[.int .u8 92, .int .u8 120, .int .u8 ((digB[hi']'i1).toNat : Int), .int .u8 ((digB[lo]'i2).toNat : Int)] 4 rfl rfl (by decide) (by omega) hbs wr.heap.size rfl
        have HR3 := hide hr3
        have HT3 : Hid (t ++ [92, 120, digB[hi']'i1, digB[lo]'i2] = o1 ++ quoL (s.data.toList.take (k + 1))) := by
          show _ = _
          rw [HTK.out, hq2, ht.out, List.append_assoc]
        have HB3 := hide hb3
        have HBL3 : Hid (Gr base w w3) := hbl.out.drew.trans hbl3
        generalize t ++ [92, 120, digB[hi']'i1, digB[lo]'i2] = t3 at *
        have i1I : (hi' : Int) < 16 := by omega
        have i2I : (lo : Int) < 16 := by omega
        have i10 : (0 : Int) ≤ (hi' : Int) := by omega
        have i20 : (0 : Int) ≤ (lo : Int) := by omega
        have hcs : ((x.toNat : Int) < 32) ∨ (¬ (x.toNat : Int) < 32 ∧ (126 : Int) < (x.toNat : Int)) := by omega
        clear hr3 hb3 hbl3 ht hb hbl hq HTK hq2 hns hhi hlo hb8
        rcases hcs with h1 | ⟨h1, h2⟩
        all_goals
          go_wp2_with fail
          go_region_law (first | (refine step_append_run2 48 rfl (.tmp 29) (.tmp 36) rfl rfl _ _ rfl rfl _ _ HR3.out ?_))
          all_goals
            go_wp2
            go_roundw
            case rel => exact ⟨k + 1, t3, a3, c3, rfl, by go_num, HJ.out, HT3.out, HB3.out, HBL3.out⟩
            case measure => simp [intOf]; omega
      · have n1 : ¬ x.toNat < 32 := by omega
        have n2 : ¬ 126 < x.toNat := by omega
        have n1I : ¬ (x.toNat : Int) < 32 := by omega
        have n2I : ¬ (126 : Int) < (x.toNat : Int) := by omega
        by_cases hqb : x = 34 ∨ x = 92
        · have hq2 : quoB x = [92, x] := by
            unfold quoB
            rw [if_neg hns, if_pos hqb]
          obtain ⟨a3, c3, w3, hr3, hb3, hbl3⟩ := byt_push hb.out [92, x] #[.int .u8 92, .int .u8 (x.toNat : Int)] 2 rfl rfl (by decide) (by omega) hbs wr.heap.size rfl
          have HR3 := hide hr3
          have HT3 : Hid (t ++ [92, x] = o1 ++ quoL (s.data.toList.take (k + 1))) := by
            show _ = _
            rw [HTK.out, hq2, ht.out, List.append_assoc]
          have HB3 := hide hb3
          have HBL3 : Hid (Gr base w w3) := hbl.out.trans hbl3
          generalize t ++ [92, x] = t3 at *
          have hcs : ((x.toNat : Int) == 34) = true ∨ (((x.toNat : Int) == 34) = false ∧ ((x.toNat : Int) == 92) = true) := by
            rcases hqb with rfl | rfl
            · left; rfl
            · right; exact ⟨rfl, rfl⟩
          clear hr3 hb3 hbl3 ht hb hbl hq HTK hq2 hns n1 n2 hqb
          rcases hcs with h1 | ⟨h1, h2⟩
          all_goals
            go_wp2_with (first
              | (at_builtin; refine wpList_append_run2 48 48 rfl _ _ rfl rfl _ _ rfl rfl _ _ HR3.out ?_)
              | fail)
            go_roundw
            case rel => exact ⟨k + 1, t3, a3, c3, rfl, by go_num, HJ.out, HT3.out, HB3.out, HBL3.out⟩
            case measure => simp [intOf]; omega
        · have hq2 : quoB x = [x] := by
            unfold quoB
            rw [if_neg hns, if_neg hqb]
          have h34 : ((x.toNat : Int) == 34) = false := by
            have : x.toNat ≠ 34 := fun e => hqb (.inl (UInt8.toNat_inj.1 e))
            rw [beq_eq_false_iff_ne]; omega
          have h92 : ((x.toNat : Int) == 92) = false := by
            have : x.toNat ≠ 92 := fun e => hqb (.inr (UInt8.toNat_inj.1 e))
            rw [beq_eq_false_iff_ne]; omega
          obtain ⟨a3, c3, w3, hr3, hb3, hbl3⟩ := byt_push hb.out [x] #[.int .u8 (x.toNat : Int)] 1 rfl rfl (by decide) (by omega) hbs wr.heap.size rfl
          have HR3 := hide hr3
          have HT3 : Hid (t ++ [x] = o1 ++ quoL (s.data.toList.take (k + 1))) := by
            show _ = _
            rw [HTK.out, hq2, ht.out, List.append_assoc]
          have HB3 := hide hb3
          have HBL3 : Hid (Gr base w w3) := hbl.out.trans hbl3
          generalize t ++ [x] = t3 at *
          clear hr3 hb3 hbl3 ht hb hbl hq HTK hq2 hns n1 n2 hqb
          go_wp2_with (first
            | (at_builtin; refine wpList_append_run2 48 48 rfl _ _ rfl rfl _ _ rfl rfl _ _ HR3.out ?_)
            | fail)
          go_roundw
          case rel => exact ⟨k + 1, t3, a3, c3, rfl, by go_num, HJ.out, HT3.out, HB3.out, HBL3.out⟩
          case measure => simp [intOf]; omega
    · have hltI : ¬ (k : Int) < (s.size : Int) := by omega
      have hke : k = s.size := by omega
      obtain ⟨a3, c3, w3, hr3, hb3, hbl3⟩ := byt_push hb.out [34] #[.int .u8 34] 1 rfl rfl (by decide) (by omega) hbs wr.heap.size rfl
      have hTT : t ++ [34] = T := by
        rw [HT.out, ht.out, hke, ← q_len, List.take_length, HO1.out]; simp
      rw [hTT] at hr3 hb3
      have HR3 := hide hr3
      have HB3 := hide hb3
      have HBL3 : Hid (Gr base w w3) := hbl.out.trans hbl3
      clear hr3 hb3 hbl3 ht hb hbl hq hTT hke
      go_wp2_with (first
        | (at_builtin; refine wpList_append_run2 48 48 rfl _ _ rfl rfl _ _ rfl rfl _ _ HR3.out ?_)
        | fail)
      go_ret
      exact ⟨a3, c3, rfl, HB3.out, HBL3.out⟩
end Go.Proofs.YtageokjobbjddaaGreatDoor
