import Derived.Test.YtkgeabljdkkonaaGreatDoorAppItem
import Derived.Test.YtkgeabljdkkonaaGreatDoorFault
import Derived.Test.YtkgeabljdkkonaaGreatDoorGB
import Derived.Test.YtkgeabljdkkonaaGreatDoorGC
namespace Go.Proofs.YtkgeabljdkkonaaGreatDoor
open Go.RowKit

set_option maxHeartbeats 1000000 in
theorem appItems_any (k : Nat) : AppItems k := by
  induction k with
  | zero => intro l lv o v base w hk; cases l <;> simp at hk
  | succ k ih =>
    intro l lv o v base w hk hbase hv ho hsz
    obtain ⟨a, g, off, cap, l, vs, hlen, ha, hok, h0, h1, h2, h3, hin⟩ := hv
    have HH : Hid (AppItems k ∧ SizeOf.sizeOf l ≤ k + 1) := ⟨ih, hk⟩
    clear ih hk
    go_enter Tryz.func69, Tryz.ntmps69
    go_wp2_with fail
    go_loopw [0, 5] (fun v i wr => ∃ (j : Nat) (p : List UInt8) (a : Option Addr) (c : Nat), j ≤ l.length ∧ i = .int .i64 j ∧ v = .slice a p.length c ∧ Wrote o (encL (l.take j)) p ∧ wr.ownsRow base 5 1 v p.length (u8s p) ∧ Below base w wr) (fun _ i _ => l.length - (intOf i).toNat)
    case atStart =>
      obtain ⟨a, c, e⟩ := owns_form ho
      exact ⟨0, o, a, c, Nat.zero_le _, rfl, e, by simpa [encL] using Wrote.nil o, ho, Below.refl _ _⟩
    case round =>
      obtain ⟨j, p, ap, cp, hj, rfl, rfl, hwr, hown, hbl⟩ := hrel
      have hbs := hbl.size
      have hpb : p.length ≤ 100000000000000 := by
        have h1 := hwr.most
        have h2 := encL_take_le l j
        omega
      have HW : Hid (Wrote o (encL (l.take j)) p) := hwr
      have HZ : Hid (o.length + (encL l).length ≤ 100000000000000) := hsz
      clear hwr hsz ho
      by_cases hlt : j < l.length
      · by_cases hp : p.length ≤ 65536
        · obtain ⟨rfl, hgb⟩ := ha (by omega)
          have cel : ∀ {oo : Nat} {u : Value}, w.cell? ⟨g, oo, none⟩ = some u → wr.cell? ⟨g, oo, none⟩ = some u := fun {_oo _u} hc => (hbl.cell (p := ⟨g, _oo, none⟩) hgb).trans hc
          have c0 := cel (h0 j hlt)
          have c1 := cel (h1 j hlt)
          have c2 := cel (h2 j hlt)
          have c3 := cel (h3 j hlt)
          have ia := (hin j hlt).keepB hbl
          have hokj := hok j hlt
          have HS : Hid (encL (l.take (j + 1)) = encL (l.take j) ++ l[j].enc) := encL_take_succ l j hlt
          have HL : Hid (p.length + l[j].enc.length ≤ 100000000000000) := by
            have h1 := HW.out.most
            have h2 := encL_take_le l (j + 1)
            rw [HS.out, List.length_append] at h2
            have := HZ.out
            show _ ≤ _
            omega
          have AI : Hid (∀ v' w', base ≤ w'.heap.size → ItsAt w' (fun g => g < base) (vs j) l[j].list → w'.ownsRow base 5 1 v' p.length (u8s p) → Calls Tryz.prog 90 #[v', .agg #[.int .i64 l[j].kind, .int .i64 l[j].num, .string l[j].text, vs j]] w' fun e w'' => ∃ v'' o1, e = .returned v'' ∧ Wrote p l[j].enc o1 ∧ w''.ownsRow base 5 1 v'' o1.length (u8s o1) ∧ Below base w' w'') := fun v' w' x y z =>
            appItem_any k HH.out.1 l[j] (vs j) p v' base w' (by have := list_lt_of_get hlt; have := HH.out.2; omega) hokj x y z HL.out
          generalize l[j] = x at *
          generalize vs j = va at *
          have j0 : (0 : Int) ≤ (j : Int) := Int.natCast_nonneg _
          have j1 : (j : Int) < (l.length : Int) := by omega
          have hp2 : (p.length : Int) ≤ 65536 := by omega
          clear h0 h1 h2 h3 hin hok ha cel hokj HL
          generalize x.kind = xk at *
          generalize x.num = xn at *
          generalize x.text = xt at *
          go_wp2_with fail
          refine (AI.out _ _ (by omega) ia hown).mono ?_
          rintro e w3 ⟨v3, o3, rfl, hw3, hown3, hb3⟩
          have HQ : Hid (Wrote o (encL (l.take (j + 1))) o3) := by
            show Wrote _ _ _
            rw [HS.out]; exact HW.out.next hw3
          have HB : Hid (Below base w w3) := hbl.trans hb3
          obtain ⟨a3, c3', rfl⟩ := owns_form hown3
          have HO : Hid (w3.ownsRow base 5 1 (.slice a3 o3.length c3') o3.length (u8s o3)) := hown3
          clear hw3 hown3 hb3 hbl hown ia AI HW HS c0 c1 c2 c3
          go_wp2_with fail
          go_roundw
          case rel => exact ⟨j + 1, o3, a3, c3', by omega, by go_num, rfl, HQ.out, HO.out, HB.out⟩
          case measure => simp [intOf]; omega
        · have HQ : Hid (Wrote o (encL l) p) := by
            have e : encL l = encL (l.take j) ++ encL (l.drop j) := by rw [← encL_append, List.take_append_drop]
            show Wrote _ _ _
            rw [e]; exact HW.out.skip _ (by omega)
          have hp2 : ¬ (p.length : Int) ≤ 65536 := by omega
          clear h0 h1 h2 h3 hin hok ha HW
          go_wp2_with fail
          go_ret
          first | exact ⟨_, p, rfl, HQ.out, hown, hbl⟩ | exact ⟨_, rfl, p, HQ.out, hown, hbl⟩
      · have hke : j = l.length := by omega
        have HQ : Hid (Wrote o (encL l) p) := by
          have := HW.out
          rwa [List.take_of_length_le (by omega)] at this
        subst hke
        clear h0 h1 h2 h3 hin hok ha HW
        go_wp2_with fail
        go_ret
        first | exact ⟨_, p, rfl, HQ.out, hown, hbl⟩ | exact ⟨_, rfl, p, HQ.out, hown, hbl⟩

/-- What Pack answers: the text, and the fault's number. -/
def packF (l : List It) : Nat := if faultR 4 l = 0 then (if 65536 < (encL l).length then 3 else 0) else faultR 4 l
def packT (l : List It) : ByteArray := if packF l = 0 then ⟨(encL l).toArray⟩ else ⟨#[]⟩

theorem conv_back {w : World} {base : Nat} {v : Value} {o : List UInt8} (h : w.ownsRow base 5 1 v o.length (u8s o)) : (convert 108 9 v).run Tryz.prog w = .ok (.string ⟨o.toArray⟩) w := by
  by_cases h0 : o.length = 0
  · obtain rfl := List.length_eq_zero_iff.1 h0
    rcases h.2 with ⟨h', _⟩ | ⟨g, cap, cur, h', _⟩
    · rw [h']; kernel_rfl
    · rw [h']; exact run_convert_bytes_back (P := Tryz.prog) w 108 9 5 ⟨g, 0, none⟩ cap [] Tryz.underlying108 Tryz.underlying5 Tryz.underlying9 (fun j hj => by simp at hj)
  · obtain ⟨g, cap, rfl, hb, hlt⟩ := h.form (by omega)
    exact run_convert_bytes_back (P := Tryz.prog) w 108 9 5 ⟨g, 0, none⟩ cap o Tryz.underlying108 Tryz.underlying5 Tryz.underlying9 (fun j hj => by
      have := h.cellAt j (by omega)
      rw [u8s_get o j hj] at this
      rw [show (⟨g, 0, none⟩ : Addr).add j = ⟨g, j, none⟩ by unfold Addr.add; split <;> simp_all]
      exact this)

set_option maxHeartbeats 2000000 in
set_option maxRecDepth 100000 in
theorem pack_any (aA aM : Addr) (l : List It) (v : Value) (w : World) (hv : ItsAt w anyB v l) (he : Errs2 aA aM w) (hsz : faultR 4 l = 0 → (encL l).length ≤ 100000000000000) :
    Calls Tryz.prog 41 #[v] w fun e w' => e = .returned (.tuple #[.string (packT l), errOf aA aM (packF l)]) ∧ Below w.heap.size w w' := by
  go_enter Tryz.func41, Tryz.ntmps41
  go_wp2_with fail
  refine (fault_any aA aM 4 l _ v w (by omega) (by rfl) hv he).mono ?_
  rintro e w1 ⟨rfl, hb1⟩
  by_cases hf : faultR 4 l = 0
  · have hE : errOf aA aM (faultR 4 l) = .nilIface := by rw [hf]; rfl
    rw [hE]
    have hs := hsz hf
    have hv1 : ItsAt w1 (fun g => g < w1.heap.size) v l := (hv.keep hb1).weak fun g hg _ => hg
    have AI : Hid (Calls Tryz.prog 69 #[.slice none 0 0, v] w1 fun e w' => ∃ v' o1, e = .returned v' ∧ Wrote [] (encL l) o1 ∧ w'.ownsRow w1.heap.size 5 1 v' o1.length (u8s o1) ∧ Below w1.heap.size w1 w') :=
      appItems_any _ l v [] (.slice none 0 0) w1.heap.size w1 (Nat.le_refl _) (Nat.le_refl _) hv1 (World.ownsRow_nil _ _ _ _) (by simpa using hs)
    have q2 := (he.keep hb1).many
    have HF : Hid (faultR 4 l = 0) := hf
    clear hE hf hsz hv hv1
    go_wp2_with fail
    refine AI.out.mono ?_
    rintro e w2 ⟨v2, o2, rfl, hw2, hown2, hb2⟩
    have q3 := cell_below hb2 q2
    have hb3 : Below w.heap.size w w2 := Below.next hb1 hb2
    have hcv := conv_back hown2
    obtain ⟨a2, c2, rfl⟩ := owns_form hown2
    clear AI hown2 hb2 hb1 q2
    by_cases hlen : (encL l).length ≤ 65536
    · have e2 : o2 = encL l := by simpa using hw2.fits (by simpa using hlen)
      have HP : Hid (packF l = 0 ∧ packT l = ⟨o2.toArray⟩) := by
        have h1 : packF l = 0 := by unfold packF; rw [if_pos HF.out, if_neg (by omega)]
        exact ⟨h1, by unfold packT; rw [if_pos h1, e2]⟩
      have hol : o2.length ≤ 65536 := by rw [e2]; exact hlen
      clear e2 hw2 HF hlen hs
      go_wp2_with fail
      go_ret2
      exact ⟨by rw [HP.out.1, HP.out.2]; rfl, hb3⟩
    · have h1 := hw2.over (by simpa using (show 65536 < (encL l).length by omega))
      have HP : Hid (packF l = 3 ∧ packT l = ⟨#[]⟩) := by
        have h1 : packF l = 3 := by unfold packF; rw [if_pos HF.out, if_pos (by omega)]
        exact ⟨h1, by unfold packT; rw [if_neg (by omega)]⟩
      clear hw2 HF hlen hcv hs
      go_wp2_with fail
      go_quiet (fail)
      go_wp2_with fail
      go_ret2
      exact ⟨by rw [HP.out.1, HP.out.2]; rfl, below_drewN hb3 _⟩
  · obtain ⟨aE, hE⟩ : ∃ aE, errOf aA aM (faultR 4 l) = .iface 178 (.pointer (some aE)) := by
      unfold errOf
      rw [if_neg hf]
      split
      · exact ⟨aA, rfl⟩
      · exact ⟨aM, rfl⟩
    have HP : Hid (packF l = faultR 4 l ∧ packT l = ⟨#[]⟩) := by
      have h1 : packF l = faultR 4 l := by unfold packF; rw [if_neg hf]
      exact ⟨h1, by unfold packT; rw [if_neg (by rw [h1]; exact hf)]⟩
    have HE : Hid (errOf aA aM (faultR 4 l) = .iface 178 (.pointer (some aE))) := hE
    rw [hE]
    clear hE hf hsz hv
    go_wp2_with fail
    go_ret2
    exact ⟨by rw [HP.out.1, HP.out.2, HE.out]; rfl, hb1⟩

end Go.Proofs.YtkgeabljdkkonaaGreatDoor

namespace Go.Proofs.YtkgeabljdkkonaaGreatDoor
open Go.RowKit

set_option maxHeartbeats 400000 in
theorem rnum_any (num : Int) (h1 : -9223372036854775808 ≤ num) (h2 : num ≤ 9223372036854775807) (w : World) :
    Calls Tryz.prog 112 #[.int .i64 num] w fun e w' => ∃ v', e = .returned v' ∧ w'.ownsRow w.heap.size 5 1 v' (num8 num).length (u8s (num8 num)) ∧ Below w.heap.size w w' := by
  obtain ⟨i0, hi, hz0, hz1, hz2⟩ := info_parts Tryz.info5
  go_enter Tryz.func112, Tryz.ntmps112
  go_wp2_with fail
  rw [bias_eq num h1 h2]
  have HM : Hid (num8 num = be8 (biased num)) := rfl
  have hM := biased_lt num h1 h2
  generalize biased num = M at *
  go_loopw [4, 5] (fun v i wr => ∃ (k : Nat) (p : List UInt8), k ≤ 8 ∧ i = .int .i64 (7 - (k : Int)) ∧ p = (be8 M).take k ∧ wr.ownsRow w.heap.size 5 1 v p.length (u8s p) ∧ Below w.heap.size w wr) (fun _ i _ => (intOf i + 1).toNat)
  case atStart => exact ⟨0, [], Nat.zero_le _, by go_num, by simp, World.ownsRow_nil _ _ _ _, Below.refl _ _⟩
  case round =>
    obtain ⟨k, p, hk, rfl, hp, hown, hbl⟩ := hrel
    have hbs := hbl.size
    have hpl : p.length = k := by rw [hp, List.length_take]; simp [be8]; omega
    have HP : Hid (p = (be8 M).take k) := hp
    have hpb : p.length ≤ 8 := by omega
    clear hp hpl
    by_cases hlt : k < 8
    · obtain ⟨j, hj⟩ : ∃ j : Nat, (7 : Int) - k = (j : Int) := ⟨7 - k, by omega⟩
      rw [hj]
      have hv := dig_val M j
      have HS : Hid (p ++ [byteAt M j] = (be8 M).take (k + 1)) := by
        show _ = _
        rw [be8_take M k hlt, HP.out, show 7 - k = j by omega]
      have HJ : Hid ((7 : Int) - k = (j : Int)) := hj
      have hj8 : j < 8 := by omega
      have j0 : (0 : Int) ≤ (j : Int) := Int.natCast_nonneg j
      have hm1 : p.length + 1 ≤ maxLen := by unfold maxLen; omega
      have hm2 : (p.length + 1) * 1 ≤ 140737488355328 := by omega
      clear hj
      generalize byteAt M j = dg at *
      go_wp2_with (first
        | (at_builtin; refine wpList_append_lies _ rfl _ _ 108 rfl w.heap.size 5 i0 (.int .u8 0) 1 1 Tryz.underlying108 hi hz0 hz1 hz2 rfl (by decide) _ _ _ rfl (hown.alloc _) ⟨wr.heap.size, 0, none⟩ 1 1 [.int .u8 (dg.toNat : Int)] rfl rfl (news1 _ (wr.heap.size) (dg.toNat : Int) (by simp)) (u8s_single _) (by decide) hm1 hm2 (by simp; omega) (wr.heap.size + 1) (by simp) ?_))
      intro g cap w1 hown' hgrow hat hlg
      obtain ⟨hown2, hb1⟩ := pushed (es := [dg]) (by omega) hown hown' hgrow
      have HB : Hid (Below w.heap.size w w1) := hbl.trans hb1
      have HO : Hid (w1.ownsRow w.heap.size 5 1 (.slice (some ⟨g, 0, none⟩) (p.length + 1) cap) (p ++ [dg]).length (u8s (p ++ [dg]))) := hown2
      clear hown' hgrow hown hat hlg hbl hb1 hown2
      go_wp2_with fail
      go_roundw
      case rel => exact ⟨k + 1, p ++ [dg], by omega, by have := HJ.out; go_num, HS.out, HO.out, HB.out⟩
      case measure => simp [intOf]
    · have hke : k = 8 := by omega
      subst hke
      have HF : Hid (p = num8 num) := by
        show p = _
        rw [HP.out, HM.out, List.take_of_length_le (by simp [be8])]
      clear HP
      go_wp2_with fail
      go_ret
      exact ⟨_, rfl, by rw [← HF.out]; exact hown, hbl⟩

set_option maxHeartbeats 1000000 in
theorem rtext_any (s : ByteArray) (w : World) (hsz : (encT s.data.toList).length ≤ 100000000000000) :
    Calls Tryz.prog 113 #[.string s] w fun e w' => ∃ v', e = .returned v' ∧ w'.ownsRow w.heap.size 5 1 v' (encT s.data.toList).length (u8s (encT s.data.toList)) ∧ Below w.heap.size w w' := by
  obtain ⟨i0, hi, hz0, hz1, hz2⟩ := info_parts Tryz.info5
  have hss : s.size ≤ 100000000000000 := by
    have h1 := escL_len s.data.toList
    have h2 : s.data.toList.length = s.size := by simp
    unfold encT at hsz
    rw [List.length_append] at hsz
    omega
  go_enter Tryz.func113, Tryz.ntmps113
  go_wp2_with fail
  go_loopw [3, 4] (fun v i wr => ∃ (k : Nat) (p : List UInt8), k ≤ s.size ∧ i = .int .i64 k ∧ p = escL (s.data.toList.take k) ∧ wr.ownsRow w.heap.size 5 1 v p.length (u8s p) ∧ Below w.heap.size w wr) (fun _ i _ => s.size - (intOf i).toNat)
  case atStart => exact ⟨0, [], Nat.zero_le _, rfl, by simp [escL], World.ownsRow_nil _ _ _ _, Below.refl _ _⟩
  case round =>
    obtain ⟨k, p, hk, rfl, hp, hown, hbl⟩ := hrel
    have hbs := hbl.size
    have hpb : p.length ≤ 100000000000000 - 2 := by
      have h2 := escL_take_le s.data.toList k
      unfold encT at hsz
      rw [List.length_append] at hsz
      simp only [List.length_cons, List.length_nil] at hsz
      rw [hp]
      omega
    have HP : Hid (p = escL (s.data.toList.take k)) := hp
    clear hp hsz
    have hm1 : p.length + 1 ≤ maxLen := by unfold maxLen; omega
    have hm2 : (p.length + 1) * 1 ≤ 140737488355328 := by omega
    by_cases hlt : k < s.size
    · have hkl : k < s.data.toList.length := by simpa using hlt
      have HS : Hid (escL (s.data.toList.take (k + 1)) = escL (s.data.toList.take k) ++ (if s[k] = 0 then [0, 255] else [s[k]])) := escL_take s.data.toList k hkl
      have j0 : (0 : Int) ≤ (k : Int) := Int.natCast_nonneg _
      have j1 : (k : Int) < (s.size : Int) := by omega
      obtain ⟨x, hx⟩ : ∃ x : UInt8, x = s[k] := ⟨_, rfl⟩
      have hxx : s[k] = x := hx.symm
      rw [← hx] at HS
      clear hx
      go_wp2_with (first
        | (at_builtin; refine wpList_append_lies _ rfl _ _ 108 rfl w.heap.size 5 i0 (.int .u8 0) 1 1 Tryz.underlying108 hi hz0 hz1 hz2 rfl (by decide) _ _ _ rfl (hown.alloc _) ⟨wr.heap.size, 0, none⟩ 1 1 [.int .u8 (x.toNat : Int)] rfl rfl (news1 _ (wr.heap.size) (x.toNat : Int) (by simp)) (u8s_single _) (by decide) hm1 hm2 (by simp; omega) (wr.heap.size + 1) (by simp) ?_))
      intro g cap w1 hown' hgrow hat hlg
      obtain ⟨hown2, hb1⟩ := pushed (es := [x]) (by omega) hown hown' hgrow
      have hb2 : Below w.heap.size w w1 := hbl.trans hb1
      have hbs2 := hb2.size
      clear hown' hgrow hown hat hlg hbl hb1
      by_cases hx0 : x = 0
      · subst hx0
        have HQ : Hid ((p ++ [0]) ++ [255] = escL (s.data.toList.take (k + 1))) := by
          show _ = _
          rw [HS.out, if_pos rfl, List.append_assoc, HP.out]; rfl
        have hown : w1.ownsRow w.heap.size 5 1 (.slice (some ⟨g, 0, none⟩) (p.length + 1) cap) (p ++ [0]).length (u8s (p ++ [0])) := hown2
        have hl2 : (p ++ [0]).length = p.length + 1 := by simp
        have hn1 : (p ++ [0]).length + 1 ≤ maxLen := by rw [hl2]; unfold maxLen; omega
        have hn2 : ((p ++ [0]).length + 1) * 1 ≤ 140737488355328 := by rw [hl2]; omega
        have HL2 : Hid ((p ++ [0]).length = p.length + 1) := hl2
        clear hown2 HP HS hl2
        go_wp2_with (first
          | (at_builtin; refine wpList_append_lies _ rfl _ _ 108 rfl w.heap.size 5 i0 (.int .u8 0) 1 1 Tryz.underlying108 hi hz0 hz1 hz2 rfl (by decide) _ _ _ rfl (hown.alloc _) ⟨w1.heap.size, 0, none⟩ 1 1 [.int .u8 255] rfl rfl (news1 _ (w1.heap.size) 255 (by simp)) (u8s_single _) (by decide) hn1 hn2 (by simp; omega) (w1.heap.size + 1) (by simp) ?_))
        intro g2 cap2 w3 hown' hgrow hat hlg
        obtain ⟨hown2, hb1⟩ := pushed (es := [255]) (by omega) hown (by first | exact hown' | (rw [HL2.out]; exact hown')) hgrow
        have HB : Hid (Below w.heap.size w w3) := hb2.trans hb1
        have HO := hown2
        clear hown' hgrow hown hat hlg hb2 hb1
        go_wp2_with fail
        go_roundw
        case rel => exact ⟨k + 1, (p ++ [0]) ++ [255], by omega, by go_num, HQ.out, HO, HB.out⟩
        case measure => simp [intOf]; omega
      · have HQ : Hid (p ++ [x] = escL (s.data.toList.take (k + 1))) := by
          show _ = _
          rw [HS.out, if_neg hx0, HP.out]
        have hx1 : ((x.toNat : Int) == 0) = false := by
          simp; intro e; exact hx0 (UInt8.toNat_inj.1 (by rw [e]; rfl))
        have HO : Hid (w1.ownsRow w.heap.size 5 1 (.slice (some ⟨g, 0, none⟩) (p.length + 1) cap) (p ++ [x]).length (u8s (p ++ [x]))) := hown2
        clear hown2 HP HS
        go_wp2_with fail
        go_roundw
        case rel => exact ⟨k + 1, p ++ [x], by omega, by go_num, HQ.out, HO.out, hb2⟩
        case measure => simp [intOf]; omega
    · have hke : k = s.size := by omega
      have HQ : Hid (p ++ [0, 0] = encT s.data.toList) := by
        show _ = _
        rw [HP.out, List.take_of_length_le (by simp; omega)]; rfl
      subst hke
      have hn1 : p.length + 2 ≤ maxLen := by unfold maxLen; omega
      have hn2 : (p.length + 2) * 1 ≤ 140737488355328 := by omega
      clear HP
      go_wp2_with (first
        | (at_builtin; refine wpList_append_lies _ rfl _ _ 108 rfl w.heap.size 5 i0 (.int .u8 0) 1 1 Tryz.underlying108 hi hz0 hz1 hz2 rfl (by decide) _ _ _ rfl (hown.alloc _) ⟨wr.heap.size, 0, none⟩ 2 2 [.int .u8 0, .int .u8 0] rfl rfl (World.news_of_block (heap_alloc_new wr (.cells #[.int .u8 0, .int .u8 0] 5))) (u8s_two 0 0) (by decide) hn1 hn2 (by simp; omega) (wr.heap.size + 1) (by simp) ?_))
      intro g cap w1 hown' hgrow hat hlg
      obtain ⟨hown2, hb1⟩ := pushed (es := [0, 0]) (by omega) hown hown' hgrow
      have hb2 : Below w.heap.size w w1 := hbl.trans hb1
      clear hown' hgrow hown hat hlg hbl hb1
      go_wp2_with fail
      go_ret
      exact ⟨_, rfl, by rw [← HQ.out]; exact hown2, hb2⟩

end Go.Proofs.YtkgeabljdkkonaaGreatDoor

namespace Go.Proofs.YtkgeabljdkkonaaGreatDoor
open Go.RowKit

theorem cells_news {w : World} {base g n c : Nat} {o : List UInt8} (h : w.ownsRow base 5 1 (.slice (some ⟨g, 0, none⟩) n c) o.length (u8s o)) : ∀ j u, (u8s o)[j]? = some u → w.cell? ((⟨g, 0, none⟩ : Addr).add j) = some u := fun j u hu => by
  have hj : j < o.length := by
    rcases Nat.lt_or_ge j o.length with h' | h'
    · exact h'
    · rw [List.getElem?_eq_none (by rw [u8s_length]; exact h')] at hu; cases hu
  have hn : n = o.length := by
    rcases h.2 with ⟨h', _⟩ | ⟨_, _, _, h', _⟩
    · cases h'
    · cases h'; rfl
  subst hn
  have := h.cellAt j (by omega)
  rw [hu] at this
  rw [show (⟨g, 0, none⟩ : Addr).add j = ⟨g, j, none⟩ by unfold Addr.add; split <;> simp_all]
  exact this
theorem pushed0 {base : Nat} {wr w1 : World} {o es : List UInt8} {v v' : Value} (hb : base ≤ wr.heap.size) (hown : wr.ownsRow base 5 1 v o.length (u8s o))
    (hown' : w1.ownsRow base 5 1 v' (o.length + es.length) (u8s o ++ u8s es)) (hgrow : wr.grownBy w1 v.ownBlock) : w1.ownsRow base 5 1 v' (o ++ es).length (u8s (o ++ es)) ∧ Below base wr w1 := by
  refine ⟨by rw [u8s_append, List.length_append]; exact hown', ?_⟩
  exact (Below.refl base wr).grown hgrow hb (fun k hk => (hown.lt k hk).1)
theorem own_lit (w : World) (base : Nat) (c : UInt8) (H : Nat) (hb : base ≤ H) (hH : w.heap.size = H) : (w.alloc (.cells #[.int .u8 (c.toNat : Int)] 5)).ownsRow base 5 1 (.slice (some ⟨H, 0, none⟩) 1 1) [c].length (u8s [c]) := by
  subst hH
  exact ⟨rfl, .inr ⟨w.heap.size, 1, _, rfl, hb, heap_alloc_new w _, Nat.le_refl _, by unfold maxLen; decide, rfl, rfl⟩⟩

def AllSpec (k : Nat) : Prop := ∀ (l : List It) (lv : Value) (w : World), SizeOf.sizeOf l ≤ k → ItsAt w anyB lv l → (encL l).length ≤ 100000000000000 →
    Calls Tryz.prog 73 #[lv] w fun e w' => ∃ v', e = .returned v' ∧ (l = [] → v' = .slice none 0 0) ∧ w'.ownsRow w.heap.size 5 1 v' (encL l).length (u8s (encL l)) ∧ Below w.heap.size w w'
theorem enc_pos (x : It) : 0 < x.enc.length := by rw [x.enc_eq]; simp
theorem encL_pos (l : List It) (h : l ≠ []) : 0 < (encL l).length := by
  cases l with
  | nil => exact absurd rfl h
  | cons x r => simp only [encL, List.length_append]; have := enc_pos x; omega

set_option maxHeartbeats 1000000 in
theorem rone_any (k : Nat) (ih : AllSpec k) (x : It) (la : Value) (w : World) (hk : SizeOf.sizeOf x.list ≤ k) (hx : x.Ok) (hl : ItsAt w anyB la x.list) (hsz : x.enc.length ≤ 100000000000000) :
    Calls Tryz.prog 93 #[.agg #[.int .i64 x.kind, .int .i64 x.num, .string x.text, la]] w fun e w' => ∃ v', e = .returned v' ∧ w'.ownsRow w.heap.size 5 1 v' x.enc.length (u8s x.enc) ∧ Below w.heap.size w w' := by
  obtain ⟨i0, hi, hz0, hz1, hz2⟩ := info_parts Tryz.info5
  obtain ⟨aa, ca, rfl⟩ := hl.form
  have HE : Hid (x.enc = byteOf x.kind :: bodyOf x.kind x.num x.text.data.toList (encL x.list)) := x.enc_eq
  have hn1 := hx.n1
  have hn2 := hx.n2
  have hbk := byteOf_wrap x.kind
  have hbn := byteOf_wrap x.num
  have HZ : Hid (1 + (bodyOf x.kind x.num x.text.data.toList (encL x.list)).length ≤ 100000000000000) := by
    rw [HE.out, List.length_cons] at hsz; show _ ≤ _; omega
  clear hsz hx
  go_enter Tryz.func93, Tryz.ntmps93
  generalize x.enc = E at *
  generalize x.kind = xk at *
  generalize x.num = xn at *
  generalize x.text = xt at *
  generalize x.list = xl at *
  generalize hBK : byteOf xk = bk at *
  generalize hBN : byteOf xn = bn at *
  have HN : Hid (byteOf xn = bn) := hBN
  clear hBK hBN
  have b1 := below_new w (.cells #[.int .i64 xk, .int .i64 xn, .string xt, .slice aa xl.length ca] 49)
  have x1 := boxed_new w #[.int .i64 xk, .int .i64 xn, .string xt, .slice aa xl.length ca] 49
  have b2 := below_new (w.alloc (.cells #[.int .i64 xk, .int .i64 xn, .string xt, .slice aa xl.length ca] 49)) (.cells #[.int .u8 (bk.toNat : Int)] 5)
  have hown := own_lit (w.alloc (.cells #[.int .i64 xk, .int .i64 xn, .string xt, .slice aa xl.length ca] 49)) w.heap.size bk (w.heap.size + 1) (by omega) (by simp)
  have x2 := x1.keep b2
  have b12 := Below.next b1 b2
  have hl2 := hl.keep b12
  have hs2 := b12.size
  have ALL : Hid (Below w.heap.size w ((w.alloc (.cells #[.int .i64 xk, .int .i64 xn, .string xt, .slice aa xl.length ca] 49)).alloc (.cells #[.int .u8 (bk.toNat : Int)] 5)) ∧ ((w.alloc (.cells #[.int .i64 xk, .int .i64 xn, .string xt, .slice aa xl.length ca] 49)).alloc (.cells #[.int .u8 (bk.toNat : Int)] 5)).ownsRow w.heap.size 5 1 (.slice (some ⟨w.heap.size + 1, 0, none⟩) 1 1) [bk].length (u8s [bk]) ∧ ItsAt ((w.alloc (.cells #[.int .i64 xk, .int .i64 xn, .string xt, .slice aa xl.length ca] 49)).alloc (.cells #[.int .u8 (bk.toNat : Int)] 5)) anyB (.slice aa xl.length ca) xl) := ⟨b12, hown, hl2⟩
  clear b1 x1 b2 hown x2 b12 hl2 hs2 hl
  by_cases e2 : xk = 2
  · subst e2
    have hp1 : [bk].length + 1 ≤ maxLen := by unfold maxLen; simp
    have hp2 : ([bk].length + 1) * 1 ≤ 140737488355328 := by simp
    have HF : Hid (E = [bk] ++ [bn]) := by show E = _; rw [HE.out, ← HN.out]; rfl
    have hE2 : (E = [bk] ++ [bn]) := HF.out
    clear hE2
    go_wp2_with (first
      | (at_builtin; refine wpList_append_lies _ rfl _ _ 108 rfl w.heap.size 5 i0 (.int .u8 0) 1 1 Tryz.underlying108 hi hz0 hz1 hz2 rfl (by decide) _ _ _ rfl (ALL.out.2.1.alloc _) ⟨w.heap.size + 1 + 1, 0, none⟩ 1 1 [.int .u8 (bn.toNat : Int)] rfl rfl (news1 _ (w.heap.size + 1 + 1) (bn.toNat : Int) (by simp)) (u8s_single _) (by decide) hp1 hp2 (by simp; omega) (w.heap.size + 1 + 1 + 1) (by simp) ?_))
    intro g4 cap4 w4 hown' hgrow hat hlg
    have hs := ALL.out.1.size
    obtain ⟨hown4, hb4⟩ := pushed (es := [bn]) hs ALL.out.2.1 hown' hgrow
    have HB4 : Hid (Below w.heap.size w w4) := ALL.out.1.trans hb4
    clear hown' hgrow hat hlg hb4 hs
    go_wp2_with fail
    go_ret
    exact ⟨_, rfl, by rw [HF.out]; exact hown4, HB4.out⟩
  · have g2 : (xk == 2) = false := by simpa using e2
    by_cases e3 : xk = 3
    · subst e3
      have HX : Hid (E = [bk] ++ num8 xn) := by show E = _; rw [HE.out]; rfl
      have HL0 : Hid (0 < (num8 xn).length ∧ (num8 xn).length ≤ 100000000000000) := ⟨by simp [num8, be8], by simp [num8, be8]⟩
      go_wp2_with fail
      obtain ⟨b12, hown, hl2⟩ := ALL.out
      clear ALL
      generalize (w.alloc (.cells #[.int .i64 3, .int .i64 xn, .string xt, .slice aa xl.length ca] 49)).alloc (.cells #[.int .u8 (bk.toNat : Int)] 5) = W2 at *
      refine (rnum_any xn hn1 hn2 _).mono ?_
      rintro e w3 ⟨v3, rfl, hown3, hb3⟩
      have hout := owns_keep hown hb3
      have hb3' := Below.next b12 hb3
      have hs3 := hb3'.size
      obtain ⟨g3, c3, rfl, hg3, hlt3⟩ := hown3.form HL0.out.1
      have hsrc := cells_news hown3
      have HO : Hid (w3.ownsRow w.heap.size 5 1 (.slice (some ⟨w.heap.size + 1, 0, none⟩) 1 1) [bk].length (u8s [bk])) := hout
      have HS : Hid (∀ j u, (u8s (num8 xn))[j]? = some u → w3.cell? ((⟨g3, 0, none⟩ : Addr).add j) = some u) := hsrc
      have HB : Hid (Below w.heap.size w w3) := hb3'
      clear b12 hown hl2 hown3 hb3 hb3' hsrc hg3 hlt3 hout
      generalize num8 xn = B at *
      have hm0 : 0 < B.length := HL0.out.1
      have hm1 : [bk].length + B.length ≤ maxLen := by have := HL0.out.2; unfold maxLen; simp; omega
      have hm2 : ([bk].length + B.length) * 1 ≤ 140737488355328 := by have := HL0.out.2; simp; omega
      have hlb : (u8s B).length = B.length * 1 := by rw [u8s_length, Nat.mul_one]
      have HLB : Hid ((u8s B).length = B.length * 1) := hlb
      clear hlb
      go_wp2_with (first
        | (at_builtin; refine wpList_append_lies _ rfl _ _ 108 rfl w.heap.size 5 i0 (.int .u8 0) 1 1 Tryz.underlying108 hi hz0 hz1 hz2 rfl (by decide) _ _ _ rfl HO.out ⟨g3, 0, none⟩ B.length c3 (u8s B) rfl HLB.out HS.out (u8s_one _) hm0 hm1 hm2 (by omega) w3.heap.size rfl ?_))
      intro g4 cap4 w4 hown' hgrow hat hlg
      obtain ⟨hown4, hb4⟩ := pushed0 (by omega) HO.out hown' hgrow
      clear hown' hgrow hat hlg
      have HF : Hid (E = [bk] ++ B) := HX.out
      go_wp2_with fail
      go_ret
      exact ⟨_, rfl, by rw [HF.out]; exact hown4, HB.out.trans hb4⟩
    · have g3 : (xk == 3) = false := by simpa using e3
      by_cases e4 : xk = 4
      · subst e4
        have HX : Hid (E = [bk] ++ encT xt.data.toList) := by show E = _; rw [HE.out]; rfl
        have HL0 : Hid (0 < (encT xt.data.toList).length ∧ (encT xt.data.toList).length ≤ 100000000000000) := ⟨by unfold encT; simp, by have := HZ.out; have e : bodyOf 4 xn xt.data.toList (encL xl) = encT xt.data.toList := rfl; rw [e] at this; omega⟩
        go_wp2_with fail
        obtain ⟨b12, hown, hl2⟩ := ALL.out
        clear ALL
        generalize (w.alloc (.cells #[.int .i64 4, .int .i64 xn, .string xt, .slice aa xl.length ca] 49)).alloc (.cells #[.int .u8 (bk.toNat : Int)] 5) = W2 at *
        refine (rtext_any xt _ HL0.out.2).mono ?_
        rintro e w3 ⟨v3, rfl, hown3, hb3⟩
        have hout := owns_keep hown hb3
        have hb3' := Below.next b12 hb3
        have hs3 := hb3'.size
        obtain ⟨g3, c3, rfl, hg3, hlt3⟩ := hown3.form HL0.out.1
        have hsrc := cells_news hown3
        have HO : Hid (w3.ownsRow w.heap.size 5 1 (.slice (some ⟨w.heap.size + 1, 0, none⟩) 1 1) [bk].length (u8s [bk])) := hout
        have HS : Hid (∀ j u, (u8s (encT xt.data.toList))[j]? = some u → w3.cell? ((⟨g3, 0, none⟩ : Addr).add j) = some u) := hsrc
        have HB : Hid (Below w.heap.size w w3) := hb3'
        clear b12 hown hl2 hown3 hb3 hb3' hsrc hg3 hlt3 hout
        generalize encT xt.data.toList = B at *
        have hm0 : 0 < B.length := HL0.out.1
        have hm1 : [bk].length + B.length ≤ maxLen := by have := HL0.out.2; unfold maxLen; simp; omega
        have hm2 : ([bk].length + B.length) * 1 ≤ 140737488355328 := by have := HL0.out.2; simp; omega
        have hlb : (u8s B).length = B.length * 1 := by rw [u8s_length, Nat.mul_one]
        have HLB : Hid ((u8s B).length = B.length * 1) := hlb
        clear hlb
        go_wp2_with (first
          | (at_builtin; refine wpList_append_lies _ rfl _ _ 108 rfl w.heap.size 5 i0 (.int .u8 0) 1 1 Tryz.underlying108 hi hz0 hz1 hz2 rfl (by decide) _ _ _ rfl HO.out ⟨g3, 0, none⟩ B.length c3 (u8s B) rfl HLB.out HS.out (u8s_one _) hm0 hm1 hm2 (by omega) w3.heap.size rfl ?_))
        intro g4 cap4 w4 hown' hgrow hat hlg
        obtain ⟨hown4, hb4⟩ := pushed0 (by omega) HO.out hown' hgrow
        clear hown' hgrow hat hlg
        have HF : Hid (E = [bk] ++ B) := HX.out
        go_wp2_with fail
        go_ret
        exact ⟨_, rfl, by rw [HF.out]; exact hown4, HB.out.trans hb4⟩
      · have g4 : (xk == 4) = false := by simpa using e4
        by_cases e5 : xk = 5
        · subst e5
          have HX5 : Hid (E = ([bk] ++ encL xl) ++ [0]) := by show E = _; rw [HE.out]; rfl
          have HL5 : Hid ((encL xl).length + 2 ≤ 100000000000000) := by
            have := HZ.out
            have e : bodyOf 5 xn xt.data.toList (encL xl) = encL xl ++ [0] := rfl
            rw [e, List.length_append] at this
            simp only [List.length_cons, List.length_nil] at this
            show _ ≤ _
            omega
          have IHA : Hid (∀ w', ItsAt w' anyB (.slice aa xl.length ca) xl → Calls Tryz.prog 73 #[.slice aa xl.length ca] w' fun e w'' => ∃ v', e = .returned v' ∧ (xl = [] → v' = .slice none 0 0) ∧ w''.ownsRow w'.heap.size 5 1 v' (encL xl).length (u8s (encL xl)) ∧ Below w'.heap.size w' w'') := fun w' h => ih xl _ w' hk h (by have := HL5.out; omega)
          clear ih hk
          go_wp2_with fail
          obtain ⟨b12, hown, hl2⟩ := ALL.out
          clear ALL
          generalize (w.alloc (.cells #[.int .i64 5, .int .i64 xn, .string xt, .slice aa xl.length ca] 49)).alloc (.cells #[.int .u8 (bk.toNat : Int)] 5) = W2 at *
          refine (IHA.out _ hl2).mono ?_
          rintro e w3 ⟨v3, rfl, hnil, hown3, hb3⟩
          have hout := owns_keep hown hb3
          have hb3' := Below.next b12 hb3
          have hs3 := hb3'.size
          by_cases hxl : xl = []
          · obtain rfl := hnil hxl
            have HX : Hid (E = [bk] ++ [0]) := by show E = _; rw [HX5.out, hxl]; simp [encL]
            subst hxl
            have hp1 : [bk].length + 1 ≤ maxLen := by unfold maxLen; simp
            have hp2 : ([bk].length + 1) * 1 ≤ 140737488355328 := by simp
            have HO : Hid (w3.ownsRow w.heap.size 5 1 (.slice (some ⟨w.heap.size + 1, 0, none⟩) 1 1) [bk].length (u8s [bk])) := hout
            have HB : Hid (Below w.heap.size w w3) := hb3'
            clear IHA hnil hown3 hout hb3 hb3' hown b12 hl2 HX5 HL5 HE HZ
            go_wp2_with (first
              | (at_builtin; refine wpList_append_lies _ rfl _ _ 108 rfl w.heap.size 5 i0 (.int .u8 0) 1 1 Tryz.underlying108 hi hz0 hz1 hz2 rfl (by decide) _ _ _ rfl (HO.out.alloc _) ⟨w3.heap.size, 0, none⟩ 1 1 [.int .u8 0] rfl rfl (news1 _ (w3.heap.size) 0 (by simp)) (u8s_single _) (by decide) hp1 hp2 (by simp; omega) (w3.heap.size + 1) (by simp) ?_))
            intro g4 cap4 w4 hown' hgrow hat hlg
            obtain ⟨hown4, hb4⟩ := pushed (es := [0]) hs3 HO.out hown' hgrow
            clear hown' hgrow hat hlg
            go_wp2_with fail
            go_ret
            exact ⟨_, rfl, by rw [HX.out]; exact hown4, HB.out.trans hb4⟩
          · have hpos := encL_pos xl hxl
            obtain ⟨g3, c3, rfl, hg3, hlt3⟩ := hown3.form hpos
            have hsrc := cells_news hown3
            have HO : Hid (w3.ownsRow w.heap.size 5 1 (.slice (some ⟨w.heap.size + 1, 0, none⟩) 1 1) [bk].length (u8s [bk])) := hout
            have HS : Hid (∀ j u, (u8s (encL xl))[j]? = some u → w3.cell? ((⟨g3, 0, none⟩ : Addr).add j) = some u) := hsrc
            have HB : Hid (Below w.heap.size w w3) := hb3'
            clear b12 hown hl2 hown3 hb3 hb3' hsrc hg3 hlt3 hout IHA hnil hxl HE HZ
            generalize encL xl = B at *
            have hm1 : [bk].length + B.length ≤ maxLen := by have := HL5.out; unfold maxLen; simp; omega
            have hm2 : ([bk].length + B.length) * 1 ≤ 140737488355328 := by have := HL5.out; simp; omega
            have HLB : Hid ((u8s B).length = B.length * 1) := by show _ = _; rw [u8s_length, Nat.mul_one]
            go_wp2_with (first
              | (at_builtin; refine wpList_append_lies _ rfl _ _ 108 rfl w.heap.size 5 i0 (.int .u8 0) 1 1 Tryz.underlying108 hi hz0 hz1 hz2 rfl (by decide) _ _ _ rfl HO.out ⟨g3, 0, none⟩ B.length c3 (u8s B) rfl HLB.out HS.out (u8s_one _) hpos hm1 hm2 (by omega) w3.heap.size rfl ?_))
            intro g4 cap4 w4 hown' hgrow hat hlg
            obtain ⟨hown4, hb4⟩ := pushed0 (by omega) HO.out hown' hgrow
            have HO4 : Hid (w4.ownsRow w.heap.size 5 1 (.slice (some ⟨g4, 0, none⟩) ([bk].length + B.length) cap4) ([bk] ++ B).length (u8s ([bk] ++ B))) := hown4
            have HB4 : Hid (Below w.heap.size w w4) := HB.out.trans hb4
            have hs4 := HB4.out.size
            have hl4 : ([bk] ++ B).length = 1 + B.length := by simp; omega
            have hn1' : ([bk] ++ B).length + 1 ≤ maxLen := by have := HL5.out; rw [hl4]; unfold maxLen; omega
            have hn2' : (([bk] ++ B).length + 1) * 1 ≤ 140737488355328 := by have := HL5.out; rw [hl4]; omega
            clear hown' hgrow hat hlg hown4 hb4 hl4 HO HS
            generalize hq : [bk] ++ B = q at *
            have HQ : Hid (E = q ++ [0]) := by show E = _; rw [HX5.out]
            clear hq HX5
            go_wp2_with (first
              | (at_builtin; refine wpList_append_lies _ rfl _ _ 108 rfl w.heap.size 5 i0 (.int .u8 0) 1 1 Tryz.underlying108 hi hz0 hz1 hz2 rfl (by decide) _ _ _ rfl (HO4.out.alloc _) ⟨w4.heap.size, 0, none⟩ 1 1 [.int .u8 0] rfl rfl (news1 _ (w4.heap.size) 0 (by simp)) (u8s_single _) (by decide) hn1' hn2' (by simp; omega) (w4.heap.size + 1) (by simp) ?_))
            intro g5 cap5 w5 hown' hgrow hat hlg
            obtain ⟨hown5, hb5⟩ := pushed (es := [0]) hs4 HO4.out hown' hgrow
            clear hown' hgrow hat hlg
            go_wp2_with fail
            go_ret
            exact ⟨_, rfl, by rw [HQ.out]; exact hown5, HB4.out.trans hb5⟩
        · have g5 : (xk == 5) = false := by simpa using e5
          have HF : Hid (E = [bk]) := by
            have : bodyOf xk xn xt.data.toList (encL xl) = [] := by unfold bodyOf; rw [if_neg e2, if_neg e3, if_neg e4, if_neg e5]
            show E = _
            rw [HE.out, this]
          clear HE HZ e2 e3 e4 e5
          go_wp2_with fail
          go_ret
          exact ⟨_, rfl, by rw [HF.out]; exact ALL.out.2.1, ALL.out.1⟩

set_option maxHeartbeats 1000000 in
theorem rall_any (k : Nat) : AllSpec k := by
  induction k with
  | zero => intro l lv w hk; cases l <;> simp at hk
  | succ k ih =>
    intro l lv w hk hv hsz
    obtain ⟨a, g, off, cap, l, vs, hlen, ha, hok, h0, h1, h2, h3, hin⟩ := hv
    obtain ⟨i0, hi, hz0, hz1, hz2⟩ := info_parts Tryz.info5
    have HH : Hid (AllSpec k ∧ SizeOf.sizeOf l ≤ k + 1) := ⟨ih, hk⟩
    clear ih hk
    go_enter Tryz.func73, Tryz.ntmps73
    go_wp2_with fail
    go_loopw [3, 4] (fun v i wr => ∃ (j : Nat) (p : List UInt8), j ≤ l.length ∧ i = .int .i64 j ∧ p = encL (l.take j) ∧ (j = 0 → v = .slice none 0 0) ∧ wr.ownsRow w.heap.size 5 1 v p.length (u8s p) ∧ Below w.heap.size w wr) (fun _ i _ => l.length - (intOf i).toNat)
    case atStart => exact ⟨0, [], Nat.zero_le _, rfl, by simp [encL], fun _ => rfl, World.ownsRow_nil _ _ _ _, Below.refl _ _⟩
    case round =>
      obtain ⟨j, p, hj, rfl, hp, hnil, hown, hbl⟩ := hrel
      have hbs := hbl.size
      have HP : Hid (p = encL (l.take j)) := hp
      have HNIL : Hid (j = 0 → u3 = .slice none 0 0) := hnil
      clear hp hnil
      by_cases hlt : j < l.length
      · obtain ⟨rfl, -⟩ := ha (by omega)
        have c0 := cell_below hbl (h0 j hlt)
        have c1 := cell_below hbl (h1 j hlt)
        have c2 := cell_below hbl (h2 j hlt)
        have c3 := cell_below hbl (h3 j hlt)
        have ia := (hin j hlt).keep hbl
        have HS : Hid (p ++ l[j].enc = encL (l.take (j + 1))) := by show _ = _; rw [encL_take_succ l j hlt, HP.out]
        have HL : Hid (0 < l[j].enc.length ∧ p.length + l[j].enc.length ≤ 100000000000000) := by
          have h2 := encL_take_le l (j + 1)
          rw [← HS.out, List.length_append] at h2
          exact ⟨enc_pos _, by omega⟩
        have RO : Hid (∀ w', ItsAt w' anyB (vs j) l[j].list → Calls Tryz.prog 93 #[.agg #[.int .i64 l[j].kind, .int .i64 l[j].num, .string l[j].text, vs j]] w' fun e w'' => ∃ v', e = .returned v' ∧ w''.ownsRow w'.heap.size 5 1 v' l[j].enc.length (u8s l[j].enc) ∧ Below w'.heap.size w' w'') := fun w' h =>
          rone_any k HH.out.1 l[j] (vs j) w' (by have := list_lt_of_get hlt; have := HH.out.2; omega) (hok j hlt) h (by have := HL.out.2; omega)
        generalize l[j].enc = B at *
        generalize l[j] = x at *
        generalize vs j = va at *
        have j0 : (0 : Int) ≤ (j : Int) := Int.natCast_nonneg _
        have j1 : (j : Int) < (l.length : Int) := by omega
        clear h0 h1 h2 h3 hin hok ha hsz
        generalize x.kind = xk at *
        generalize x.num = xn at *
        generalize x.text = xt at *
        generalize x.list = xl at *
        go_wp2_with fail
        refine (RO.out _ ia).mono ?_
        rintro e w3 ⟨v3, rfl, hown3, hb3⟩
        have hout := owns_keep hown hb3
        have hb3' := Below.next hbl hb3
        have hs3 := hb3'.size
        obtain ⟨g3, c3', rfl, hg3, hlt3⟩ := hown3.form HL.out.1
        have hsrc := cells_news hown3
        have HO : Hid (w3.ownsRow w.heap.size 5 1 u3 p.length (u8s p)) := hout
        have HSR : Hid (∀ j u, (u8s B)[j]? = some u → w3.cell? ((⟨g3, 0, none⟩ : Addr).add j) = some u) := hsrc
        have HB : Hid (Below w.heap.size w w3) := hb3'
        have hm0 := HL.out.1
        have hm1 : p.length + B.length ≤ maxLen := by have := HL.out.2; unfold maxLen; omega
        have hm2 : (p.length + B.length) * 1 ≤ 140737488355328 := by have := HL.out.2; omega
        have HLB : Hid ((u8s B).length = B.length * 1) := by show _ = _; rw [u8s_length, Nat.mul_one]
        clear hown hown3 hb3 hb3' hsrc hg3 hlt3 hout RO ia c0 c1 c2 c3 hbl HNIL HP
        go_wp2_with (first
          | (at_builtin; refine wpList_append_lies _ rfl _ _ 108 rfl w.heap.size 5 i0 (.int .u8 0) 1 1 Tryz.underlying108 hi hz0 hz1 hz2 rfl (by decide) _ _ _ rfl HO.out ⟨g3, 0, none⟩ B.length c3' (u8s B) rfl HLB.out HSR.out (u8s_one _) hm0 hm1 hm2 (by omega) w3.heap.size rfl ?_))
        intro g4 cap4 w4 hown' hgrow hat hlg
        obtain ⟨hown4, hb4⟩ := pushed0 (by omega) HO.out hown' hgrow
        have HO4 : Hid (w4.ownsRow w.heap.size 5 1 (.slice (some ⟨g4, 0, none⟩) (p.length + B.length) cap4) (p ++ B).length (u8s (p ++ B))) := hown4
        have HB4 : Hid (Below w.heap.size w w4) := HB.out.trans hb4
        clear hown' hgrow hat hlg hown4 hb4 HO HSR
        go_wp2_with fail
        go_roundw
        case rel => exact ⟨j + 1, p ++ B, by omega, by go_num, HS.out, fun h => by omega, HO4.out, HB4.out⟩
        case measure => simp [intOf]; omega
      · have hke : j = l.length := by omega
        have HQ : Hid (p = encL l) := by
          show p = _
          rw [HP.out, List.take_of_length_le (by omega)]
        have HN2 : Hid (l = [] → u3 = .slice none 0 0) := fun h => HNIL.out (by rw [hke, h]; rfl)
        subst hke
        clear h0 h1 h2 h3 hin hok ha HP HNIL
        go_wp2_with fail
        go_ret
        exact ⟨_, rfl, HN2.out, by rw [← HQ.out]; exact hown, hbl⟩

end Go.Proofs.YtkgeabljdkkonaaGreatDoor

namespace Go.Proofs.YtkgeabljdkkonaaGreatDoor
open Go.RowKit

theorem ret_i64 {a b : Int} (h : a = b) : Ending.returned (.int .i64 a) = .returned (.int .i64 b) := by rw [h]
def RecF (rec : List It → Nat) (d : Int) : Prop := d < 4 → ∀ (l : List It) (v : Value) (w : World), ItsAt w anyB v l → Calls Tryz.prog 72 #[v, .int .i64 (d + 1)] w fun e w' => e = .returned (.int .i64 (rec l : Nat)) ∧ Below w.heap.size w w'

set_option maxHeartbeats 1000000 in
theorem rfault_one (rec : List It → Nat) (d : Int) (hd0 : 0 ≤ d) (hd4 : d ≤ 4) (ih : RecF rec d) (i4 : ¬ d < 4 → ∀ l, rec l = 3) (x : It) (va : Value) (w : World) (hv : ItsAt w anyB va x.list) :
    Calls Tryz.prog 92 #[.agg #[.int .i64 x.kind, .int .i64 x.num, .string x.text, va], .int .i64 d] w fun e w' => e = .returned (.int .i64 (oneF rec x : Nat)) ∧ Below w.heap.size w w' := by
  have ht : (⟨#[]⟩ : ByteArray).toList = [] := by rw [ByteArray.toList_eq]
  obtain ⟨aa, ca, rfl⟩ := hv.form
  obtain ⟨nt, hnt⟩ : ∃ nt, (x.text.toList == []) = nt := ⟨_, rfl⟩
  obtain ⟨nl, hnl⟩ : ∃ nl, ((x.list.length : Int) == 0) = nl := ⟨_, rfl⟩
  obtain ⟨n0, hn0⟩ : ∃ n0, (x.num == 0) = n0 := ⟨_, rfl⟩
  obtain ⟨n1, hn1⟩ : ∃ n1, (x.num == 1) = n1 := ⟨_, rfl⟩
  have HF : Hid (oneF rec x = if (if x.kind = 1 then n0 && nt && nl else if x.kind = 2 then (n0 || n1) && nt && nl else if x.kind = 3 then nt && nl else if x.kind = 4 then n0 && nl else if x.kind = 5 then n0 && nt else false) = false then 1 else if x.kind = 5 then rec x.list else 0) := by
    show oneF rec x = _
    rw [← hnt, ← hnl, ← hn0, ← hn1]; rfl
  have b1 := below_new w (.cells #[.int .i64 x.kind, .int .i64 x.num, .string x.text, .slice aa x.list.length ca] 49)
  have hv1 := hv.keep b1
  have HB : Hid (Below w.heap.size w (w.alloc (.cells #[.int .i64 x.kind, .int .i64 x.num, .string x.text, .slice aa x.list.length ca] 49))) := b1
  have HV : Hid (ItsAt (w.alloc (.cells #[.int .i64 x.kind, .int .i64 x.num, .string x.text, .slice aa x.list.length ca] 49)) anyB (.slice aa x.list.length ca) x.list) := hv1
  have IH : Hid (RecF rec d ∧ (¬ d < 4 → ∀ l, rec l = 3)) := ⟨ih, i4⟩
  clear b1 hv1 hv ih i4
  generalize oneF rec x = R at *
  generalize x.kind = k at *
  generalize x.num = n at *
  generalize x.text = t at *
  generalize x.list = xl at *
  go_enter Tryz.func92, Tryz.ntmps92
  by_cases k1 : k = 1
  · subst k1
    cases nt <;> cases nl <;> cases n0
    all_goals
      have hR := HF.out
      simp at hR
      subst hR
      go_wp2_with fail
      go_ret
      exact ⟨rfl, HB.out⟩
  · have g1 : (k == 1) = false := by simpa using k1
    by_cases k2 : k = 2
    · subst k2
      cases nt <;> cases nl <;> cases n0 <;> cases n1
      all_goals
        have hR := HF.out
        simp at hR
        subst hR
        go_wp2_with fail
        first | go_ret | (go_quiet (fail); go_wp2_with fail; go_ret)
        first | exact ⟨rfl, HB.out⟩ | exact ⟨rfl, below_drewN HB.out _⟩
    · have g2 : (k == 2) = false := by simpa using k2
      by_cases k3 : k = 3
      · subst k3
        cases nt <;> cases nl
        all_goals
          have hR := HF.out
          simp at hR
          subst hR
          go_wp2_with fail
          go_ret
          exact ⟨rfl, HB.out⟩
      · have g3 : (k == 3) = false := by simpa using k3
        by_cases k4 : k = 4
        · subst k4
          cases nl <;> cases n0
          all_goals
            have hR := HF.out
            simp at hR
            subst hR
            go_wp2_with fail
            go_ret
            exact ⟨rfl, HB.out⟩
        · have g4 : (k == 4) = false := by simpa using k4
          by_cases k5 : k = 5
          · subst k5
            by_cases hn : (n0 && nt) = true
            · simp only [Bool.and_eq_true] at hn
              obtain ⟨rfl, rfl⟩ := hn
              have hR := HF.out
              simp at hR
              by_cases hd : d < 4
              · have hw : IntKind.i64.wrap (d + 1) = d + 1 := wrap_i64 _ (by omega) (by omega)
                have HR : Hid (R = rec xl) := hR
                clear hR
                go_wp2_with fail
                refine (IH.out.1 hd _ _ _ HV.out).mono ?_
                rintro e w3 ⟨rfl, hb3⟩
                go_wp2_with fail
                go_ret
                exact ⟨by rw [HR.out]; rfl, Below.next HB.out hb3⟩
              · rw [IH.out.2 hd xl] at hR
                subst hR
                go_wp2_with fail
                go_ret
                exact ⟨rfl, HB.out⟩
            · cases nt <;> cases n0
              all_goals
                first
                | (exact absurd rfl hn)
                | (have hR := HF.out
                   simp at hR
                   subst hR
                   clear hn
                   go_wp2_with fail
                   go_ret
                   exact ⟨rfl, HB.out⟩)
          · have g5 : (k == 5) = false := by simpa using k5
            have hR : R = 1 := by rw [HF.out, if_neg k1, if_neg k2, if_neg k3, if_neg k4, if_neg k5]; rfl
            subst hR
            clear HF k1 k2 k3 k4 k5
            go_wp2_with fail
            go_ret
            exact ⟨rfl, HB.out⟩

set_option maxHeartbeats 1000000 in
theorem rfaults_step (rec : List It → Nat) (d : Int) (hd0 : 0 ≤ d) (hd4 : d ≤ 4) (ih : RecF rec d) (i4 : ¬ d < 4 → ∀ l, rec l = 3) (l : List It) (v : Value) (w : World) (hv : ItsAt w anyB v l) :
    Calls Tryz.prog 72 #[v, .int .i64 d] w fun e w' => e = .returned (.int .i64 ((if 16 < l.length then 3 else firstF (oneF rec) l : Nat) : Int)) ∧ Below w.heap.size w w' := by
  obtain ⟨a, g, off, cap, l, vs, hlen, ha, hok, h0, h1, h2, h3, hin⟩ := hv
  have FO : Hid (∀ (x : It) (va : Value) (w : World), ItsAt w anyB va x.list → Calls Tryz.prog 92 #[.agg #[.int .i64 x.kind, .int .i64 x.num, .string x.text, va], .int .i64 d] w fun e w' => e = .returned (.int .i64 (oneF rec x : Nat)) ∧ Below w.heap.size w w') := fun x va w h => rfault_one rec d hd0 hd4 ih i4 x va w h
  clear ih i4
  by_cases h16 : 16 < l.length
  · rw [if_pos h16]
    clear ha hok h0 h1 h2 h3 hin
    go_enter Tryz.func72, Tryz.ntmps72
    go_wp2_with fail
    go_ret
    exact ⟨rfl, Below.refl _ _⟩
  · rw [if_neg h16]
    go_enter Tryz.func72, Tryz.ntmps72
    go_wp2_with fail
    go_loopw [5] (fun i wr => ∃ j : Nat, j ≤ l.length ∧ i = .int .i64 j ∧ firstF (oneF rec) (l.take j) = 0 ∧ Below w.heap.size w wr) (fun i _ => l.length - (intOf i).toNat)
    case atStart => exact ⟨0, Nat.zero_le _, rfl, rfl, Below.refl _ _⟩
    case round =>
      obtain ⟨j, hj, rfl, hfj, hbl⟩ := hrel
      have HFJ : Hid (firstF (oneF rec) (l.take j) = 0) := hfj
      clear hfj
      by_cases hlt : j < l.length
      · obtain ⟨rfl, -⟩ := ha (by omega)
        have c0 := cell_below hbl (h0 j hlt)
        have c1 := cell_below hbl (h1 j hlt)
        have c2 := cell_below hbl (h2 j hlt)
        have c3 := cell_below hbl (h3 j hlt)
        have ia := (hin j hlt).keep hbl
        have HS : Hid (oneF rec l[j] ≠ 0 → firstF (oneF rec) l = oneF rec l[j]) := fun h => firstF_stop _ l j hlt HFJ.out h
        have HN : Hid (oneF rec l[j] = 0 → firstF (oneF rec) (l.take (j + 1)) = 0) := fun h => by rw [firstF_take _ l j hlt HFJ.out, h]
        have FX := fun w' => FO.out l[j] (vs j) w'
        have FXH : Hid (∀ w', ItsAt w' anyB (vs j) l[j].list → Calls Tryz.prog 92 #[.agg #[.int .i64 l[j].kind, .int .i64 l[j].num, .string l[j].text, vs j], .int .i64 d] w' fun e w'' => e = .returned (.int .i64 (oneF rec l[j] : Nat)) ∧ Below w'.heap.size w' w'') := FX
        clear FX FO
        generalize oneF rec l[j] = R at *
        generalize l[j] = x at *
        generalize vs j = va at *
        have j0 : (0 : Int) ≤ (j : Int) := Int.natCast_nonneg _
        have j1 : (j : Int) < (l.length : Int) := by omega
        clear h0 h1 h2 h3 hin hok ha
        generalize x.kind = xk at *
        generalize x.num = xn at *
        generalize x.text = xt at *
        generalize x.list = xl at *
        go_wp2_with fail
        refine (FXH.out _ ia).mono ?_
        rintro e w3 ⟨rfl, hb3⟩
        have HB3 : Hid (Below w.heap.size w w3) := Below.next hbl hb3
        clear hbl hb3 ia c0 c1 c2 c3 FXH
        by_cases hR : R = 0
        · have HQ : Hid (firstF (oneF rec) (l.take (j + 1)) = 0) := HN.out hR
          subst hR
          clear HS HN
          go_wp2_with fail
          go_roundw
          case rel => exact ⟨j + 1, by omega, by go_num, HQ.out, HB3.out⟩
          case measure => simp [intOf]; omega
        · have HQ : Hid (firstF (oneF rec) l = R) := HS.out hR
          have hne : ((R : Int) != 0) = true := by rw [bne_iff_ne]; omega
          clear HS HN
          go_wp2_with fail
          go_ret
          exact ⟨ret_i64 (by rw [HQ.out]), HB3.out⟩
      · have hke : j = l.length := by omega
        have HQ : Hid (firstF (oneF rec) l = 0) := by
          have := HFJ.out
          rwa [List.take_of_length_le (by omega)] at this
        subst hke
        clear h0 h1 h2 h3 hin hok ha HFJ FO
        go_wp2_with fail
        go_ret
        exact ⟨ret_i64 (by rw [HQ.out]; rfl), hbl⟩

theorem rfaults_any (r : Nat) : ∀ (l : List It) (d : Int) (v : Value) (w : World), r ≤ 4 → d = 4 - r → ItsAt w anyB v l →
    Calls Tryz.prog 72 #[v, .int .i64 d] w fun e w' => e = .returned (.int .i64 (faultR r l : Nat)) ∧ Below w.heap.size w w' := by
  induction r with
  | zero =>
    intro l d v w _ hd hv
    exact rfaults_step (fun _ => 3) d (by omega) (by omega) (fun h => by omega) (fun _ _ => rfl) l v w hv
  | succ r ih =>
    intro l d v w hr hd hv
    exact rfaults_step (faultR r) d (by omega) (by omega) (fun _ l v w hv => ih l (d + 1) v w (by omega) (by omega) hv) (fun h => by omega) l v w hv

end Go.Proofs.YtkgeabljdkkonaaGreatDoor

namespace Go.Proofs.YtkgeabljdkkonaaGreatDoor
open Go.RowKit

theorem faultR_kinds (r : Nat) : ∀ l, faultR r l = 0 ∨ faultR r l = 1 ∨ faultR r l = 3 := by
  have first : ∀ (f : It → Nat), (∀ x, f x = 0 ∨ f x = 1 ∨ f x = 3) → ∀ l, firstF f l = 0 ∨ firstF f l = 1 ∨ firstF f l = 3 := by
    intro f hf l
    induction l with
    | nil => exact .inl rfl
    | cons x r ih =>
      simp only [firstF]
      split
      · exact ih
      · exact hf x
  have one : ∀ (rec : List It → Nat), (∀ l, rec l = 0 ∨ rec l = 1 ∨ rec l = 3) → ∀ x, oneF rec x = 0 ∨ oneF rec x = 1 ∨ oneF rec x = 3 := by
    intro rec hr x
    unfold oneF
    split
    · exact .inr (.inl rfl)
    · split
      · exact hr _
      · exact .inl rfl
  induction r with
  | zero =>
    intro l
    simp only [faultR]
    split
    · exact .inr (.inr rfl)
    · exact first _ (one _ fun _ => .inr (.inr rfl)) l
  | succ r ih =>
    intro l
    simp only [faultR]
    split
    · exact .inr (.inr rfl)
    · exact first _ (one _ ih) l
theorem packF_kinds (l : List It) : packF l = 0 ∨ packF l = 1 ∨ packF l = 3 := by
  unfold packF
  split
  · split
    · exact .inr (.inr rfl)
    · exact .inl rfl
  · exact faultR_kinds 4 l

set_option maxHeartbeats 1000000 in
set_option maxRecDepth 100000 in
theorem rpack_any (l : List It) (v : Value) (w : World) (hv : ItsAt w anyB v l) (hsz : faultR 4 l = 0 → (encL l).length ≤ 100000000000000) :
    Calls Tryz.prog 54 #[v] w fun e w' => e = .returned (.tuple #[.string (packT l), .int .i64 (packF l : Nat)]) ∧ Below w.heap.size w w' := by
  go_enter Tryz.func54, Tryz.ntmps54
  go_wp2_with fail
  refine (rfaults_any 4 l _ v w (by omega) (by rfl) hv).mono ?_
  rintro e w1 ⟨rfl, hb1⟩
  by_cases hf : faultR 4 l = 0
  · have hs := hsz hf
    have RA : Hid (Calls Tryz.prog 73 #[v] w1 fun e w' => ∃ v', e = .returned v' ∧ (l = [] → v' = .slice none 0 0) ∧ w'.ownsRow w1.heap.size 5 1 v' (encL l).length (u8s (encL l)) ∧ Below w1.heap.size w1 w') :=
      rall_any _ l v w1 (Nat.le_refl _) (hv.keep hb1) hs
    have HF : Hid (faultR 4 l = 0) := hf
    rw [HF.out]
    clear hf hsz hv
    go_wp2_with fail
    refine RA.out.mono ?_
    rintro e w2 ⟨v2, rfl, -, hown2, hb2⟩
    have hb3 : Below w.heap.size w w2 := Below.next hb1 hb2
    have hcv := conv_back hown2
    obtain ⟨a2, c2, rfl⟩ := owns_form hown2
    clear RA hown2 hb2 hb1
    by_cases hlen : (encL l).length ≤ 65536
    · have HP : Hid (packF l = 0 ∧ packT l = ⟨(encL l).toArray⟩) := by
        have h1 : packF l = 0 := by unfold packF; rw [if_pos HF.out, if_neg (by omega)]
        exact ⟨h1, by unfold packT; rw [if_pos h1]⟩
      clear HF hs
      generalize encL l = B at *
      go_wp2_with fail
      go_ret2
      exact ⟨by rw [HP.out.1, HP.out.2]; rfl, hb3⟩
    · have HP : Hid (packF l = 3 ∧ packT l = ⟨#[]⟩) := by
        have h1 : packF l = 3 := by unfold packF; rw [if_pos HF.out, if_pos (by omega)]
        exact ⟨h1, by unfold packT; rw [if_neg (by omega)]⟩
      have hlt : 65536 < (encL l).length := by omega
      clear HF hcv hs hlen
      generalize encL l = B at *
      go_wp2_with fail
      first | go_ret2 | (go_quiet (fail); go_wp2_with fail; go_ret2)
      exact ⟨by rw [HP.out.1, HP.out.2]; rfl, by first | exact hb3 | exact below_drewN hb3 _⟩
  · have HP : Hid (packF l = faultR 4 l ∧ packT l = ⟨#[]⟩) := by
      have h1 : packF l = faultR 4 l := by unfold packF; rw [if_neg hf]
      exact ⟨h1, by unfold packT; rw [if_neg (by rw [h1]; exact hf)]⟩
    have hne : ((faultR 4 l : Int) != 0) = true := by rw [bne_iff_ne]; omega
    clear hsz hv
    generalize faultR 4 l = F at *
    go_wp2_with fail
    go_ret2
    exact ⟨by rw [HP.out.1, HP.out.2]; rfl, hb1⟩

/-- A list that may be, but for its text, has a text that a machine can hold if its parts were counted. -/
theorem enc_le (k : Nat) : ∀ l : List It, SizeOf.sizeOf l ≤ k → (encL l).length ≤ 12 * cntL l := by
  induction k with
  | zero => intro l h; cases l <;> simp at h
  | succ k ih =>
    intro l
    induction l with
    | nil => intro _; simp [encL]
    | cons x r ihr =>
      intro h
      have h1 : SizeOf.sizeOf (x :: r) = 1 + SizeOf.sizeOf x + SizeOf.sizeOf r := rfl
      have h2 := It.list_lt x
      have hx := ih x.list (by omega)
      have hr := ihr (by omega)
      simp only [encL, cntL, List.length_append, It.cnt_eq, It.enc_eq, List.length_cons]
      have hesc : (encT x.text.data.toList).length ≤ 2 * x.text.size + 2 := by
        have : ∀ t : List UInt8, (escL t).length ≤ 2 * t.length := by
          intro t
          induction t with
          | nil => simp [escL]
          | cons c r ih =>
            have e : escL (c :: r) = (if c = 0 then [0, 255] else [c]) ++ escL r := by simp [escL]
            rw [e, List.length_append, List.length_cons]
            split <;> simp <;> omega
        have h := this x.text.data.toList
        unfold encT
        rw [List.length_append]
        simp only [List.length_cons, List.length_nil]
        have e : x.text.data.toList.length = x.text.size := by simp
        omega
      have hb : (bodyOf x.kind x.num x.text.data.toList (encL x.list)).length ≤ 8 + (2 * x.text.size + 2) + ((encL x.list).length + 1) := by
        unfold bodyOf
        split
        · simp only [List.length_cons, List.length_nil]; omega
        · split
          · simp [num8, be8]; omega
          · split
            · omega
            · split
              · rw [List.length_append]; simp only [List.length_cons, List.length_nil]; omega
              · simp
      omega

end Go.Proofs.YtkgeabljdkkonaaGreatDoor

namespace Go.Proofs.YtkgeabljdkkonaaGreatDoor
open Go.RowKit

/-! The document's own side: names, fields, the fault of a query. -/
theorem q_snoc (s : ByteArray) (k : Nat) (h : k < s.size) : s.data.toList.take (k + 1) = s.data.toList.take k ++ [s[k]] := by
  rw [List.take_succ_eq_append_getElem (by simpa using h)]; rfl
theorem q_len (s : ByteArray) : s.data.toList.length = s.size := by simp
def nameB (c : UInt8) : Bool := decide (33 ≤ c.toNat ∧ c.toNat ≤ 126)
def isNameD (s : ByteArray) : Bool := s.data.toList.all nameB && decide (1 ≤ s.size ∧ s.size ≤ 32)
theorem all_stop {p : UInt8 → Bool} (s : ByteArray) (k : Nat) (h : k < s.size) (hp : p s[k] = false) : s.data.toList.all p = false := by
  rw [List.all_eq_false]
  exact ⟨s[k], by have := List.getElem_mem (l := s.data.toList) (n := k) (by simpa using h); exact this, by simp [hp]⟩
set_option maxHeartbeats 2000000 in
set_option maxRecDepth 100000 in
theorem isname_any (s : ByteArray) (w : World) (hs : s.size ≤ 140737488355328) :
    Calls Tryz.prog 51 #[.string s] w fun e w' => e = .returned (.bool (isNameD s)) ∧ w = w' := by
  obtain ⟨r, hr⟩ : ∃ r, r = isNameD s := ⟨_, rfl⟩
  rw [← hr]
  have HR := hide hr
  clear hr
  go_enter Tryz.func51, Tryz.ntmps51
  go_wp2
  go_loop [3] (fun v => ∃ k : Nat, v = .int .i64 (k : Int) ∧ k ≤ s.size ∧ Hid ((s.data.toList.take k).all nameB = true)) (fun v => s.size - (intOf v).toNat)
  case atStart => exact ⟨0, rfl, Nat.zero_le _, rfl⟩
  case round =>
    obtain ⟨k, rfl, hk, hall⟩ := hrel
    by_cases hlt : k < s.size
    · have hltI : (k : Int) < (s.size : Int) := by omega
      have e0 : (0 : Int) ≤ (k : Int) := by omega
      by_cases h1 : s[k].toNat < 33
      · have h1I : (s[k].toNat : Int) < 33 := by omega
        have HF : Hid (r = false) := by
          show _ = _
          rw [HR.out, isNameD, all_stop s k hlt (by simp [nameB]; omega)]; rfl
        go_wp2
        go_ret
        exact ⟨by rw [HF.out]; rfl, rfl⟩
      · have h1I : ¬ (s[k].toNat : Int) < 33 := by omega
        by_cases h2 : 126 < s[k].toNat
        · have h2I : (126 : Int) < (s[k].toNat : Int) := by omega
          have HF : Hid (r = false) := by
            show _ = _
            rw [HR.out, isNameD, all_stop s k hlt (by simp [nameB]; omega)]; rfl
          go_wp2
          go_ret
          exact ⟨by rw [HF.out]; rfl, rfl⟩
        · have h2I : ¬ (126 : Int) < (s[k].toNat : Int) := by omega
          have HA : Hid ((s.data.toList.take (k + 1)).all nameB = true) := by
            show _ = _
            rw [q_snoc s k hlt, List.all_append, hall.out]
            simp [nameB]; omega
          go_wp2
          go_round
          case rel => exact ⟨k + 1, by go_num, by omega, HA⟩
          case measure => simp [intOf]; omega
    · have he : k = s.size := by omega
      have hltI : ¬ (k : Int) < (s.size : Int) := by omega
      have HA : Hid (r = decide (1 ≤ s.size ∧ s.size ≤ 32)) := by
        show _ = _
        have h9 := hall.out
        rw [he, ← q_len, List.take_length] at h9
        rw [HR.out, isNameD, h9]; rfl
      by_cases h1 : 1 ≤ s.size
      · have h1I : (1 : Int) ≤ (s.size : Int) := by omega
        by_cases h2 : s.size ≤ 32
        · have h2I : (s.size : Int) ≤ 32 := by omega
          go_wp2
          go_ret
          exact ⟨by rw [HA.out]; simp [h1, h2], rfl⟩
        · have h2I : ¬ (s.size : Int) ≤ 32 := by omega
          go_wp2
          go_ret
          exact ⟨by rw [HA.out]; simp [h2], rfl⟩
      · have h1I : ¬ (1 : Int) ≤ (s.size : Int) := by omega
        go_wp2
        go_ret
        exact ⟨by rw [HA.out]; simp [h1], rfl⟩
end Go.Proofs.YtkgeabljdkkonaaGreatDoor

namespace Go.Proofs.YtkgeabljdkkonaaGreatDoor
open Go.RowKit

/-- A field as plain data: its name, its kind. -/
abbrev Fd := ByteArray × Int
/-- The slice value v reads as the fields l. -/
def FsAt (w : World) (v : Value) (l : List Fd) : Prop :=
  ∃ (a : Option Addr) (g off cap : Nat), v = .slice a l.length cap ∧ l.length ≤ 17592186044416 ∧ (0 < l.length → a = some ⟨g, off, none⟩) ∧
    ∀ i (h : i < l.length), w.cell? ⟨g, off + i * 2, none⟩ = some (.string l[i].1) ∧ w.cell? ⟨g, off + i * 2 + 1, none⟩ = some (.int .i64 l[i].2)
theorem FsAt.form {w : World} {v : Value} {l : List Fd} (h : FsAt w v l) : ∃ a c, v = .slice a l.length c := by
  obtain ⟨a, g, off, cap, h, _⟩ := h
  exact ⟨a, cap, h⟩
theorem FsAt.len {w : World} {v : Value} {l : List Fd} (h : FsAt w v l) : l.length ≤ 17592186044416 := by
  obtain ⟨a, g, off, cap, _, h, _⟩ := h
  exact h
theorem FsAt.keep {w w' : World} {v : Value} {l : List Fd} (h : FsAt w v l) (hb : Below w.heap.size w w') : FsAt w' v l := by
  obtain ⟨a, g, off, cap, h1, h2, h3, h4⟩ := h
  exact ⟨a, g, off, cap, h1, h2, h3, fun i hi => ⟨cell_below hb (h4 i hi).1, cell_below hb (h4 i hi).2⟩⟩
theorem FsAt.get {w : World} {a : Option Addr} {n cap : Nat} {l : List Fd} (h : FsAt w (.slice a n cap) l) (i : Nat) (hi : i < l.length) : ∃ g off, a = some ⟨g, off, none⟩ ∧ w.cell? ⟨g, off + i * 2, none⟩ = some (.string l[i].1) ∧ w.cell? ⟨g, off + i * 2 + 1, none⟩ = some (.int .i64 l[i].2) := by
  obtain ⟨a', g, off, cap', h1, h2, h3, h4⟩ := h
  cases h1
  obtain rfl := h3 (by omega)
  exact ⟨g, off, rfl, h4 i hi⟩
/-- The number of the first field of that name; -1: there is none. -/
def fieldI (l : List Fd) (name : ByteArray) : Int :=
  match l.findIdx? (fun f => decide (f.1 = name)) with
  | some i => i
  | none => -1
theorem fieldI_at (l : List Fd) (name : ByteArray) (k : Nat) (hk : k < l.length) (h0 : ∀ j (h : j < l.length), j < k → l[j].1 ≠ name) (h : l[k].1 = name) : fieldI l name = (k : Int) := by
  have : l.findIdx? (fun f => decide (f.1 = name)) = some k := by
    rw [List.findIdx?_eq_some_iff_getElem]
    exact ⟨hk, by simp [h], fun j hj => by simp [h0 j (by omega) hj]⟩
  unfold fieldI
  rw [this]
theorem fieldI_none (l : List Fd) (name : ByteArray) (h0 : ∀ j (h : j < l.length), l[j].1 ≠ name) : fieldI l name = -1 := by
  have : l.findIdx? (fun f => decide (f.1 = name)) = none := by
    rw [List.findIdx?_eq_none_iff]
    intro x hx
    obtain ⟨j, hj, rfl⟩ := List.getElem_of_mem hx
    simp [h0 j hj]
  unfold fieldI
  rw [this]
theorem str_ne {a b : ByteArray} (h : a ≠ b) : (a.toList == b.toList) = false := by
  cases hb : (a.toList == b.toList) with
  | false => rfl
  | true => exact absurd ((string_eq_iff a b).1 hb) h
theorem str_eq (a : ByteArray) : (a.toList == a.toList) = true := (string_eq_iff a a).2 rfl
end Go.Proofs.YtkgeabljdkkonaaGreatDoor

namespace Go.Proofs.YtkgeabljdkkonaaGreatDoor
open Go.RowKit

/-! The fault of a query. -/
def firstN {α : Type} (f : α → Nat) : List α → Nat
  | [] => 0
  | x :: r => if f x = 0 then firstN f r else f x
theorem firstN_all {α : Type} {f : α → Nat} : ∀ (l : List α), (∀ x ∈ l, f x = 0) → firstN f l = 0
  | [], _ => rfl
  | x :: r, h => by rw [firstN, if_pos (h x (by simp))]; exact firstN_all r fun y hy => h y (by simp [hy])
theorem firstN_at {α : Type} {f : α → Nat} : ∀ (l : List α) (k : Nat) (hk : k < l.length), (∀ j (h : j < l.length), j < k → f l[j] = 0) → f l[k] ≠ 0 → firstN f l = f l[k]
  | x :: r, 0, _, _, h => by
    have h : f x ≠ 0 := h
    rw [firstN, if_neg h]; rfl
  | x :: r, k + 1, hk, h0, h => by
    have hz : f x = 0 := h0 0 (by simp) (by omega)
    rw [firstN, if_pos hz]
    exact firstN_at r k (by simpa using hk) (fun j hj hjk => h0 (j + 1) (by simpa using hj) (by omega)) h
theorem firstN_take {α : Type} {f : α → Nat} (l : List α) (h : ∀ j (h : j < l.length), f l[j] = 0) : firstN f l = 0 := firstN_all l fun x hx => by
  obtain ⟨j, hj, rfl⟩ := List.getElem_of_mem hx
  exact h j hj
def emptyB (s : ByteArray) : Bool := decide (s = ⟨#[]⟩)
def condF (c : Cd) : Nat := if isNameD c.field = true ∧ 1 ≤ c.sign ∧ c.sign ≤ 5 then packF [c.item] else 1
def endF (q : Qd) : Nat := if (q.order = ⟨#[]⟩ ∨ isNameD q.order = true) ∧ ¬ (q.falling = true ∧ q.order = ⟨#[]⟩) ∧ 0 ≤ q.limit then 0 else 1
def qfaultD (q : Qd) : Nat := if isNameD q.table = true then (if firstN condF q.cs = 0 then endF q else firstN condF q.cs) else 1
theorem cnt_mem {l : List Cd} {c : Cd} (h : c ∈ l) : c.field.size + c.item.cnt ≤ cntC l := by
  induction l with
  | nil => simp at h
  | cons d l ih =>
    rw [cntC]
    rcases List.mem_cons.1 h with rfl | h
    · omega
    · have := ih h; omega
theorem enc_one {c : Cd} {l : List Cd} (h : c ∈ l) (hs : cntC l ≤ 16777216) : (encL [c.item]).length ≤ 100000000000000 := by
  have h1 := enc_le _ [c.item] (Nat.le_refl _)
  rw [cnt_one] at h1
  have := cnt_mem h
  omega
theorem eq_empty (s : ByteArray) : (s.toList == (⟨#[]⟩ : ByteArray).toList) = decide (s = ⟨#[]⟩) := by
  by_cases h : s = ⟨#[]⟩
  · subst h; rw [str_eq]; simp
  · rw [str_ne h, decide_eq_false h]
end Go.Proofs.YtkgeabljdkkonaaGreatDoor
