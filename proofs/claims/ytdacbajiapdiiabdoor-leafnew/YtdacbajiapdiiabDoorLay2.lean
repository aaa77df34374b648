import Derived.Test.YtdacbajiapdiiabDoorCStr
import Derived.Test.YtdacbajiapdiiabDoorErrs
import Derived.Test.YtdacbajiapdiiabDoorRowT
import Derived.Test.YtdacbajiapdiiabDoorRdStr
namespace Go.Proofs.YtdacbajiapdiiabDoor
open Go.RowKit

set_option maxHeartbeats 1000000 in
theorem size_any (v : Value) (l : List ByteArray) (w : World) (hm : sizeL l ≤ 1152921504606846976) (hr : StrR w v l) :
    Calls Tryd.prog 52 #[v] w fun e w' => e = .returned (.int .i64 ((sizeL l : Nat) : Int)) ∧ w = w' := by
  obtain ⟨a, cap, rfl, hcap, hc⟩ := hr
  have HC := hide hc
  obtain ⟨n, hn⟩ : ∃ n, n = l.length := ⟨_, rfl⟩
  rw [← hn]
  have HN := hide hn
  have HM := hide hm
  have h2 : n ≤ 576460752303423488 := by
    have : sizeL l = 2 * l.length + (flatTo l l.length).length := rfl
    omega
  have hw : IntKind.i64.wrap (2 * (n : Int)) = ((endL l 0 : Nat) : Int) := by rw [IntKind.wrap_i64, endL_zero]; omega
  clear hc hn hm hcap
  go_enter Tryd.func52, Tryd.ntmps52
  go_wp2
  go_loop [3, 11] (fun r i => ∃ k : Nat, k ≤ n ∧ i = .int .i64 k ∧ r = .int .i64 ((endL l k : Nat) : Int)) (fun _ i => n - (intOf i).toNat)
  case atStart => exact ⟨0, Nat.zero_le _, rfl, rfl⟩
  case round =>
    obtain ⟨k, hk, rfl, rfl⟩ := hrel
    clear hw
    by_cases hlt : k < n
    · have hkl : k < l.length := by have := HN.out; omega
      obtain ⟨g, o, rfl, f1⟩ := HC.out k hkl
      have HS := hide (endL_succ l k hkl)
      have HL := hide (endL_mono l (k + 1) l.length (by omega) (Nat.le_refl _))
      obtain ⟨p, hp⟩ : ∃ p, p = endL l k := ⟨_, rfl⟩
      rw [← hp] at HS ⊢
      obtain ⟨q, hq⟩ : ∃ q, q = endL l (k + 1) := ⟨_, rfl⟩
      rw [← hq] at HS HL
      have HQ := hide hq
      generalize l[k] = x at *
      have hw : IntKind.i64.wrap ((p : Int) + (x.size : Int)) = (q : Int) := by
        rw [IntKind.wrap_i64]
        have h1 := HS.out
        have h2 := HL.out
        have h3 : endL l l.length ≤ 1152921504606846976 := HM.out
        omega
      have hltI : (k : Int) < (n : Int) := by omega
      clear hp hq HC
      go_wp2
      go_round
      case rel => exact ⟨k + 1, by omega, by go_num, by rw [← HQ.out]⟩
      case measure => simp [intOf]; omega
    · have hkn : k = n := by omega
      have HF : Hid (endL l k = sizeL l) := by show _ = _; rw [hkn, HN.out]; rfl
      obtain ⟨p, hp⟩ : ∃ p, p = endL l k := ⟨_, rfl⟩
      rw [← hp] at HF ⊢
      have hltI : ¬ (k : Int) < (n : Int) := by omega
      clear hp HC
      go_wp2
      go_ret
      exact ⟨by rw [← HF.out]; rfl, rfl⟩

theorem u8s_set (l : List UInt8) (k : Nat) (x : UInt8) : (u8s l).set k (.int .u8 (x.toNat : Int)) = u8s (l.set k x) := by simp [u8s, List.map_set]
theorem RowT.set {t : TypeId} {w : World} {g : Nat} {l : List UInt8} (h : RowT t w g l) (k : Nat) (x : UInt8) : RowT t (w.setCell ⟨g, k, none⟩ (.int .u8 (x.toNat : Int))) g (l.set k x) := by
  unfold RowT
  rw [heap_setCell_same w g k _ t _ h, ← u8s_set]
  simp
theorem RowT.frozen {t : TypeId} {w : World} {g : Nat} {l : List UInt8} (h : RowT t w g l) (k : Nat) : w.frozen? ⟨g, k, none⟩ = false := frozen_of_row _ _ _ _ _ h

set_option maxHeartbeats 1000000 in
theorem setSlot_any (t : TypeId) (b i e n : Nat) (l : List UInt8) (w : World) (he : e ≤ 4072) (hl : l.length = n) (hi : 2 * i + 1 < n) (hn : n ≤ 4072) (hr : RowT t w b l) :
    Calls Tryd.prog 53 #[.slice (some ⟨b, 0, none⟩) n n, .int .i64 (i : Int), .int .i64 (e : Int)] w fun ev w' => ev = .returned (.tuple #[]) ∧ RowT t w' b ((l.set (2 * i) (hi8 e)).set (2 * i + 1) (lo8 e)) ∧ Sole b w w' := by
  obtain ⟨p, hp⟩ : ∃ p, p = 2 * i := ⟨_, rfl⟩
  obtain ⟨q, hq⟩ : ∃ q, q = p + 1 := ⟨_, rfl⟩
  have hw : IntKind.i64.wrap (2 * (i : Int)) = (p : Int) := by rw [IntKind.wrap_i64]; omega
  have hw2 : IntKind.i64.wrap ((p : Int) + 1) = (q : Int) := by rw [IntKind.wrap_i64]; omega
  have h1 : (p : Int) < (n : Int) := by omega
  have h2 : (q : Int) < (n : Int) := by omega
  have h1' : p < n := by omega
  have h2' : q < n := by omega
  have hpq : ¬ q = p := by omega
  have c1 := hr.cell p (by omega)
  have c2 := hr.cell q (by omega)
  have z1 := hr.frozen p
  have z2 := hr.frozen q
  have HR : Hid (RowT t ((w.setCell ⟨b, p, none⟩ (.int .u8 ((hi8 e).toNat : Int))).setCell ⟨b, q, none⟩ (.int .u8 ((lo8 e).toNat : Int))) b ((l.set (2 * i) (hi8 e)).set (2 * i + 1) (lo8 e))) := by
    have := (hr.set p (hi8 e)).set q (lo8 e)
    rw [hq, hp] at this
    rw [hq, hp]; exact this
  have HS : Hid (Sole b w ((w.setCell ⟨b, p, none⟩ (.int .u8 ((hi8 e).toNat : Int))).setCell ⟨b, q, none⟩ (.int .u8 ((lo8 e).toNat : Int)))) := (Sole.set b p w _).trans (Sole.set b q _ _)
  rw [hi8_toNat e he, lo8_toNat] at HR HS
  have e1 : ((e / 256 : Nat) : Int) = (e : Int) / 256 := by omega
  have e2 : ((e % 256 : Nat) : Int) = (e : Int) % 256 := by omega
  rw [e1, e2] at HR HS
  generalize l[p] = y1 at *
  generalize l[q] = y2 at *
  clear hp hq hl hi hr e1 e2
  go_enter Tryd.func53, Tryd.ntmps53
  go_wp2
  go_end0
  exact ⟨rfl, HR.out, HS.out⟩

end Go.Proofs.YtdacbajiapdiiabDoor

namespace Go.Proofs.YtdacbajiapdiiabDoor
open Go.RowKit

theorem body_step (l : List ByteArray) (k : Nat) (hk : k < l.length) :
    ((splice (bodyAt l k) (endL l k) l[k].data.toList).set (2 * k) (hi8 (endL l (k + 1)))).set (2 * k + 1) (lo8 (endL l (k + 1))) = bodyAt l (k + 1) := by
  have he : endL l k = (slotsTo l k ++ (List.replicate (2 * (l.length - k)) (0 : UInt8) ++ flatTo l k)).length := by
    simp only [List.length_append, List.length_replicate, slotsTo_len]
    have : endL l k = 2 * l.length + (flatTo l k).length := rfl
    omega
  have h1 : bodyAt l k = (slotsTo l k ++ (List.replicate (2 * (l.length - k)) (0 : UInt8) ++ flatTo l k)) ++ List.replicate (4072 - endL l k) 0 := by
    unfold bodyAt; simp only [List.append_assoc]
  have h2 : splice (bodyAt l k) (endL l k) l[k].data.toList = (slotsTo l k ++ (List.replicate (2 * (l.length - k)) (0 : UInt8) ++ flatTo l k)) ++ (l[k].data.toList ++ List.replicate (4072 - endL l (k + 1)) 0) := by
    unfold splice
    rw [h1]
    conv => lhs; rw [he]
    rw [List.take_left, ← List.drop_drop, List.drop_left, ← he, List.drop_replicate, bsize, endL_succ l k hk, Nat.sub_sub]
  rw [h2, List.append_assoc, List.append_assoc, show 2 * (l.length - k) = 2 * (l.length - (k + 1)) + 1 + 1 by omega, List.replicate_succ, List.replicate_succ]
  have hs := slotsTo_len l k
  rw [List.set_append_right _ _ (by omega), hs, Nat.sub_self]
  simp only [List.cons_append, List.set_cons_zero]
  rw [List.set_append_right _ _ (by omega), hs, show 2 * k + 1 - 2 * k = 1 by omega]
  simp only [List.set_cons_succ, List.set_cons_zero]
  unfold bodyAt
  rw [flatTo_succ l k hk, slotsTo]
  simp [List.append_assoc]

theorem size4072 : (Tryd.prog.info? 84).map (·.size) = some 4072 := by kernel_rfl
theorem zero4072 : ∀ w, (zeroValue 84).run Tryd.prog w = .ok (.agg (u8s (List.replicate 4072 0)).toArray) w := (zero_of_info (P := Tryd.prog) (t := 84) (n := 4072) (v := .agg (u8s (List.replicate 4072 0)).toArray) (by kernel_rfl)).1
theorem sl_body (b : Nat) (w : World) : (Instr.sliceAt 84 (.pointer (some ⟨b, 0, none⟩)) none none none).run Tryd.prog w = .ok (.slice (some ⟨b, 0, none⟩) 4072 4072) w := by kernel_rfl
theorem arrLenB : Tryd.prog.arrayLen 84 = 4072 := by kernel_rfl
theorem arrElemB : Tryd.prog.elem 84 = 5 := by kernel_rfl
theorem sl_from (b e : Nat) (h : e ≤ 4072) : ∃ o, (e < 4072 → o = e) ∧ o ≤ e ∧ ∀ w, (Instr.sliceAt 84 (.pointer (some ⟨b, 0, none⟩)) (some (.int .i64 (e : Int))) none none).run Tryd.prog w = .ok (.slice (some ⟨b, o, none⟩) (4072 - e) (4072 - e)) w := by
  by_cases h4 : e = 4072
  · refine ⟨0, fun h' => by omega, Nat.zero_le _, fun w => ?_⟩
    have hz : (sizeOf 5).run Tryd.prog w = .ok 1 w := by kernel_rfl
    rw [run_sliceAt_array_l w 84 ⟨b, 0, none⟩ (by kernel_rfl) .i64 _ (by omega) (by rw [arrLenB]; omega), arrLenB, arrElemB, Int.toNat_natCast, hz]
    subst h4; rfl
  · refine ⟨e, fun _ => rfl, Nat.le_refl _, fun w => ?_⟩
    have hz : (sizeOf 5).run Tryd.prog w = .ok 1 w := by kernel_rfl
    rw [run_sliceAt_array_l w 84 ⟨b, 0, none⟩ (by kernel_rfl) .i64 _ (by omega) (by rw [arrLenB]; omega), arrLenB, arrElemB, Int.toNat_natCast, hz]
    by_cases h0 : e = 0
    · subst h0; rfl
    · simp [slicedAt, Addr.add, show ¬ 4072 = e by omega, h0]

theorem copy_at {t : TypeId} {w : World} {g o cap n : Nat} {l : List UInt8} (s : ByteArray) (hr : RowT t w g l) (hn : s.size ≤ n) (hfit : o + s.size ≤ l.length) :
    ∃ w2, (Builtin.copy_ #[78, 9] 3 #[.slice (some ⟨g, o, none⟩) n cap, .string s]).run Tryd.prog w = .ok (.int .i64 (s.size : Int)) w2 ∧ RowT t w2 g (splice l o s.data.toList) ∧ Sole g w w2 := by
  have hrun := Lib.run_copy_row_string (P := Tryd.prog) w 78 9 3 5 g o n cap s _ t Tryd.underlying78 size5 hr hn (by simp [u8s_length]; omega)
  refine ⟨_, hrun, ?_, Sole.setRow g w _⟩
  have hrow := setRow_heap w g _ ((u8s l).toArray.toList.take o ++ Lib.byteCells s.data.toList ++ (u8s l).toArray.toList.drop (o + s.size)).toArray t _ hr
  unfold RowT
  rw [hrow, ← u8s_splice, splice, u8s_length, bsize, List.append_assoc]
  rfl

/-- What Lay answers. -/
def LayV (A : Nat → Addr) (l : List ByteArray) (e : Ending) : Prop :=
  (sizeL l ≤ 4072 ∧ e = .returned (.tuple #[.string ⟨(layL l).toArray⟩, .nilIface])) ∨ (¬ sizeL l ≤ 4072 ∧ e = .returned (.tuple #[.string ⟨#[]⟩, .iface 128 (.pointer (some (A 2)))]))

set_option maxRecDepth 100000 in
set_option maxHeartbeats 4000000 in
theorem lay_fits (a : Option Addr) (cap n : Nat) (l : List ByteArray) (w : World) (hn : n = l.length) (hf : sizeL l ≤ 4072)
    (hc : ∀ j (h : j < l.length), ∃ g o, a = some ⟨g, o, none⟩ ∧ w.cell? ⟨g, o + j, none⟩ = some (.string l[j])) (hle : n ≤ cap) :
    Calls Tryd.prog 29 #[.slice a n cap] w fun e w' => e = .returned (.tuple #[.string ⟨(layL l).toArray⟩, .nilIface]) ∧ Below w.heap.size w w' := by
  have HSZ := hide (size_any (.slice a n cap) l w (by omega) ⟨a, cap, by rw [hn], by rw [← hn]; exact hle, hc⟩)
  have hsz : ¬ (4072 : Int) < ((sizeL l : Nat) : Int) := by omega
  have h2n : 2 * n ≤ 4072 := by
    have : sizeL l = 2 * l.length + (flatTo l l.length).length := rfl
    omega
  obtain ⟨zc, hzc, z4⟩ : ∃ zc, zc = (u8s (List.replicate 4072 0)).toArray ∧ ∀ w, (zeroValue 84).run Tryd.prog w = .ok (.agg zc) w := ⟨_, rfl, zero4072⟩
  obtain ⟨b, hb⟩ : ∃ b, b = w.heap.size := ⟨_, rfl⟩
  have hrow : RowT 84 (w.alloc (.cells zc 84)) b (bodyAt l 0) := by rw [bodyAt_zero l hf, hzc, hb]; exact rowT_new _ _ _
  have hb1 := below_new w (.cells zc 84)
  have hwn : IntKind.i64.wrap (2 * (n : Int)) = ((endL l 0 : Nat) : Int) := by rw [IntKind.wrap_i64, endL_zero, hn]; omega
  have sl := sl_body b
  have HROW := hide hrow
  have HB1 := hide hb1
  have HC := hide hc
  have HN := hide hn
  have HF := hide hf
  have HB := hide hb
  have HLL := hide (layL_len l hf)
  obtain ⟨sz, hszl⟩ : ∃ sz, sz = sizeL l := ⟨_, rfl⟩
  rw [← hszl] at HSZ hsz
  clear hrow hb1 hc hn hf hzc hszl hb hle
  go_enter Tryd.func29, Tryd.ntmps29
  go_wp2_with fail
  refine HSZ.out.mono ?_
  rintro e w' ⟨rfl, rfl⟩
  go_wp2_with fail
  rw [← HB.out]
  generalize w.alloc (.cells zc 84) = W1 at *
  clear z4 HSZ
  go_loopw [5, 17] (fun en i wr => ∃ k : Nat, k ≤ n ∧ i = .int .i64 k ∧ en = .int .i64 ((endL l k : Nat) : Int) ∧ RowT 84 wr b (bodyAt l k) ∧ Below w.heap.size w wr) (fun _ i _ => n - (intOf i).toNat)
  case atStart => exact ⟨0, Nat.zero_le _, rfl, rfl, HROW.out, HB1.out⟩
  case round =>
    obtain ⟨k, hk, rfl, rfl, hrw, hbw⟩ := hrel
    clear HROW HB1 hwn
    by_cases hlt : k < n
    · have hkl : k < l.length := by have := HN.out; omega
      obtain ⟨g, o, rfl, f0⟩ := HC.out k hkl
      have f1 : wr.cell? ⟨g, o + k, none⟩ = some (.string l[k]) := (hbw.cell (p := ⟨g, o + k, none⟩) (World.block_lt_of_cell? w _ f0)).trans f0
      have HS := hide (endL_succ l k hkl)
      have HL := hide (endL_le HF.out (show k + 1 ≤ l.length by omega))
      have HST := hide (body_step l k hkl)
      have HBL := hide (bodyAt_len l k HF.out (by omega))
      have HGE := hide (endL_ge l (k + 1))
      obtain ⟨x, hx⟩ : ∃ x, x = l[k] := ⟨_, rfl⟩
      rw [← hx] at f1 HS HST
      obtain ⟨p, hp⟩ : ∃ p, p = endL l k := ⟨_, rfl⟩
      obtain ⟨q, hq⟩ : ∃ q, q = endL l (k + 1) := ⟨_, rfl⟩
      rw [← hp] at HS HST ⊢
      rw [← hq] at HS HST HL HGE
      have HQ := hide hq
      obtain ⟨so, ho1, ho2, hsl⟩ := sl_from b p (by have := HS.out; have := HL.out; omega)
      obtain ⟨w2, hcp, hr2, hs2⟩ := copy_at (n := 4072 - p) (cap := 4072 - p) (o := so) x hrw (by have := HS.out; have := HL.out; omega) (by rw [HBL.out]; have := HS.out; have := HL.out; omega)
      have hspl : splice (bodyAt l k) so x.data.toList = splice (bodyAt l k) p x.data.toList := by
        by_cases h4 : p < 4072
        · rw [ho1 h4]
        · have hx0 : x.data.toList = [] := List.length_eq_zero_iff.1 (by rw [bsize]; have := HS.out; have := HL.out; omega)
          rw [hx0]; simp [splice]
      rw [hspl] at hr2
      have hll : (splice (bodyAt l k) p x.data.toList).length = 4072 := by
        rw [length_splice _ _ _ (by rw [bsize, HBL.out]; have := HS.out; have := HL.out; omega)]; exact HBL.out
      have HSS := hide (setSlot_any 84 b k q 4072 _ w2 HL.out hll (by have := HN.out; omega) (Nat.le_refl _) hr2)
      rw [HST.out] at HSS
      have hw : IntKind.i64.wrap ((p : Int) + (x.size : Int)) = (q : Int) := by
        rw [IntKind.wrap_i64]; have := HS.out; have := HL.out; omega
      have HB2 : Hid (Below w.heap.size w w2) := hs2.below hbw (by rw [HB.out]; exact Nat.le_refl _)
      have hltI : (k : Int) < (n : Int) := by omega
      clear hx hp hq HC hr2 hs2 hrw hbw hspl hll f0 ho1 ho2
      go_wp2_with fail
      refine HSS.out.mono ?_
      rintro e w3 ⟨rfl, hr3, hs3⟩
      have HR3 := hide hr3
      have HB3 : Hid (Below w.heap.size w w3) := hs3.below HB2.out (by rw [HB.out]; exact Nat.le_refl _)
      clear hr3 hs3 hcp f1
      go_wp2
      go_roundw
      case rel => exact ⟨k + 1, by omega, by go_num, by rw [← HQ.out], HR3.out, HB3.out⟩
      case measure => simp [intOf]; omega
    · have hkn : k = n := by omega
      have hltI : ¬ (k : Int) < (n : Int) := by omega
      have hrl : RowT 84 wr b (layL l) := by rw [hkn, HN.out, bodyAt_all] at hrw; exact hrw
      have hcv := run_str wr (.slice (some ⟨b, 0, none⟩) 4072 4072) (layL l) ⟨some ⟨b, 0, none⟩, 4072, by rw [HLL.out], fun j hj => ⟨b, 0, rfl, by rw [Nat.zero_add]; exact hrl.cell j hj⟩⟩ (by rw [HLL.out]; decide)
      have HBW := hide hbw
      obtain ⟨p, hp⟩ : ∃ p, p = endL l k := ⟨_, rfl⟩
      rw [← hp]
      obtain ⟨L, hL⟩ : ∃ L, L = layL l := ⟨_, rfl⟩
      rw [← hL] at hcv
      have HLQ := hide hL
      clear hp hrw hrl hbw HC hL
      go_wp2
      go_ret2
      exact ⟨by rw [← HLQ.out]; rfl, HBW.out⟩

set_option maxHeartbeats 1000000 in
theorem lay_any (A : Nat → Addr) (v : Value) (l : List ByteArray) (w : World) (hm : sizeL l ≤ 1152921504606846976) (hr : StrR w v l) (hE : ErrsG 4 gAll A w) :
    Calls Tryd.prog 29 #[v] w fun e w' => LayV A l e ∧ Below w.heap.size w w' := by
  by_cases hf : sizeL l ≤ 4072
  · obtain ⟨a, cap, rfl, hcap, hc⟩ := hr
    refine (lay_fits a cap l.length l w rfl hf hc hcap).mono ?_
    rintro e w' ⟨rfl, hb⟩
    exact ⟨.inl ⟨hf, rfl⟩, hb⟩
  · have HSZ := hide (size_any v l w hm hr)
    have hsz : (4072 : Int) < ((sizeL l : Nat) : Int) := by omega
    have c0 : w.cell? ⟨2, 0, none⟩ = some (.iface 128 (.pointer (some (A 2)))) := (hE.1 2 (by decide)).1
    have HF := hide hf
    obtain ⟨sz, hszl⟩ : ∃ sz, sz = sizeL l := ⟨_, rfl⟩
    rw [← hszl] at HSZ hsz
    clear hf hE hr hm hszl
    go_enter Tryd.func29, Tryd.ntmps29
    go_wp2_with fail
    refine HSZ.out.mono ?_
    rintro e w' ⟨rfl, rfl⟩
    go_wp2
    go_quiet (fail)
    go_wp2
    go_ret2
    exact ⟨.inr ⟨HF.out, rfl⟩, below_drewN' (Below.refl _ _) _⟩

end Go.Proofs.YtdacbajiapdiiabDoor
