import Derived.Test.YtdghlblgmihbpaaDoorFFree
namespace Go.Proofs.YtdghlblgmihbpaaDoor
open Go.RowKit

def nats (l : List Nat) : List Value := l.map fun (n : Nat) => Value.int .i64 (n : Int)
theorem nats_length (l : List Nat) : (nats l).length = l.length := by simp [nats]
theorem nats_append (a b : List Nat) : nats (a ++ b) = nats a ++ nats b := by simp [nats]
theorem nats_get (l : List Nat) (j : Nat) (h : j < l.length) : (nats l)[j]? = some (.int .i64 (l[j] : Int)) := by simp [nats, h]
theorem frl_le (T : Nat → Bool) (n : Nat) : (frl T n).length ≤ n := by rw [frl_len]; unfold fr; omega
theorem unxor (T : Nat → Bool) (i : Nat) : bits .xor .u64 IntKind.u64.max ((word T i : Nat) : Int) = ((zw T i 0 : Nat) : Int) := by
  have h := bits_xor_u64_nat 18446744073709551615 (word T i) (by decide) (word_lt T i)
  rw [show IntKind.u64.max = ((18446744073709551615 : Nat) : Int) by decide, h]
  refine congrArg (fun x : Nat => (x : Int)) ?_
  apply Nat.eq_of_testBit_eq
  intro j
  rw [Nat.testBit_xor, show 18446744073709551615 = 2 ^ 64 - 1 by decide, Nat.testBit_two_pow_sub_one, testBit_word, testBit_zw]
  by_cases hj : j < 64 <;> simp [hj]
/-- The N lowest that are free. -/
def lowL (T : Nat → Bool) (P N : Nat) : List Nat := (frl T P).take N
theorem frl_one {T : Nat → Bool} {m t : Nat} (h1 : ∀ j, m ≤ j → j < m + t → T j = true) (h2 : T (m + t) = false) : frl T (m + t + 1) = frl T m ++ [m + t] := by
  rw [frl, frl_true t h1, h2]; rfl

set_option maxRecDepth 100000 in
set_option maxHeartbeats 2000000 in
theorem low_any (b g P : Nat) (T : Nat → Bool) (N : Nat) (w : World) (h : MapR w b g P T) (hk : MapOk P T) (htab : tabOk w) :
    Calls Tryd.prog 37 #[.pointer (some ⟨b, 0, none⟩), .int .i64 N] w fun e w' => ∃ v, e = .returned v ∧ w'.ownsRow w.heap.size 3 1 v (lowL T P N).length (nats (lowL T P N)) ∧ Below w.heap.size w w' := by
  obtain ⟨i0, hi, hz0, hz1, hz2⟩ := info_parts info3
  have hn := nW_le h.hi
  have HF : Hid (frl T (64 * nW P) = frl T P) := fr_up hk.up _ (nW_lo P)
  have H := hide h
  have HTB := hide htab
  clear h hk htab
  obtain ⟨n, hN⟩ : ∃ n, n = nW P := ⟨_, rfl⟩
  rw [← hN] at hn HF
  have HN := hide hN
  have c1 : Hid (∀ wr, Below w.heap.size w wr → wr.cell? ⟨b, 1, none⟩ = some (.slice (some ⟨g, 0, none⟩) n n)) := fun wr hb => by
    have := (H.out.below hb).c1
    rw [← HN.out] at this; exact this
  have cw : Hid (∀ wr, Below w.heap.size w wr → ∀ k, k < n → wr.cell? ⟨g, k, none⟩ = some (.int .u64 (word T k : Int))) := fun wr hb k hk => (H.out.below hb).cw k (by rw [← HN.out]; exact hk)
  clear hN H
  go_enter Tryd.func37, Tryd.ntmps37
  go_wp2_with fail
  go_loopw [5, 6] (fun v i wr => ∃ k m : Nat, k ≤ n ∧ m ≤ 64 * k ∧ i = .int .i64 k ∧ (m = 64 * k ∨ (frl T m).length = N) ∧ (frl T m).length ≤ N ∧ wr.ownsRow w.heap.size 3 1 v (frl T m).length (nats (frl T m)) ∧ Below w.heap.size w wr) (fun _ i _ => n - (intOf i).toNat)
  case atStart => exact ⟨0, 0, Nat.zero_le _, Nat.le_refl _, rfl, .inl rfl, Nat.zero_le _, World.ownsRow_nil _ _ _ _, Below.refl _ _⟩
  case round =>
    obtain ⟨k, m, hk, hm, rfl, hor, hle, hown, hbw⟩ := hrel
    have cc := c1.out wr hbw
    obtain ⟨a, c, rfl, -⟩ := owns_form hown
    by_cases hlt : k < n
    · have cwk := cw.out wr hbw k hlt
      have hkI : (k : Int) < (n : Int) := by omega
      by_cases hll : (frl T m).length < N
      · have hme : m = 64 * k := by omega
        obtain ⟨z0, hz⟩ : ∃ z0, z0 = zw T k 0 := ⟨_, rfl⟩
        have hx := unxor T k
        rw [← hz] at hx
        have hlI : ((frl T m).length : Int) < (N : Int) := by omega
        have HOW := hide hown
        have HBW := hide hbw
        have HME := hide hme
        have HZ := hide hz
        clear hown hbw hor hme hz
        generalize hL : (frl T m).length = L at *
        have HL := hide hL
        clear hL hm
        generalize word T k = x at *
        generalize wr = W1 at *
        go_wp2_with fail
        clear hlI hll hx cc cwk
        go_loopw [5, 7] (fun v z wr => ∃ q zz : Nat, q ≤ 64 ∧ Hid (zz = zw T k q) ∧ z = .int .u64 (zz : Int) ∧ Hid ((frl T (64 * k + q)).length ≤ N) ∧ wr.ownsRow w.heap.size 3 1 v (frl T (64 * k + q)).length (nats (frl T (64 * k + q))) ∧ Below w.heap.size w wr) (fun _ z _ => (intOf z).toNat)
        case atStart =>
          refine ⟨0, z0, Nat.zero_le _, HZ.out, rfl, ?_, ?_, HBW.out⟩
          · show _ ≤ _
            rw [Nat.add_zero, ← HME.out, HL.out]; exact hle
          · rw [Nat.add_zero, ← HME.out, HL.out]; exact HOW.out
        case round =>
          clear HOW HBW HME HL HZ
          obtain ⟨q, zz, hq, HZ, rfl, HLE, hown, hbw⟩ := hrel
          obtain ⟨a2, c2, rfl, -⟩ := owns_form hown
          have hle2 : (frl T (64 * k + q)).length ≤ 64 * k + q := frl_le _ _
          by_cases hz : zz = 0
          · have hend : frl T (64 * (k + 1)) = frl T (64 * k + q) := by
              have h0 := HZ.out
              rw [hz] at h0
              have := zw_none h0.symm
              rw [show 64 * (k + 1) = 64 * k + q + (64 - q) by omega]
              exact frl_true _ (fun j h1 h2 => by have := this (j - 64 * k) (by omega) (by omega); rw [show 64 * k + (j - 64 * k) = j by omega] at this; exact this)
            subst hz
            have HEND := hide hend
            have HOW := hide hown
            have HBW := hide hbw
            clear hown hbw hend hle2
            generalize hL : (frl T (64 * k + q)).length = L2 at *
            have HL := hide hL
            clear hL
            go_wp2
            go_roundw
            case rel =>
              refine ⟨k + 1, 64 * (k + 1), by omega, by omega, by go_num, .inl rfl, ?_, ?_, HBW.out⟩
              · rw [HEND.out, HL.out]; exact HLE.out
              · rw [HEND.out, HL.out]; exact HOW.out
            case measure => simp [intOf]; omega
          · by_cases hll : (frl T (64 * k + q)).length < N
            · have hz' := hz
              rw [HZ.out] at hz'
              obtain ⟨t, h1, h2, h3, h4, h5, h6⟩ := zw_step hz'
              have hzlt : zz < 18446744073709551616 := by have := zw_lt T k q; have := HZ.out; omega
              have HT := hide (tz_any zz hzlt hz wr (HTB.out.below hbw))
              have hct : Lib.ctz 64 zz = t := by rw [HZ.out]; exact h1
              rw [hct] at HT
              have hzI : ((zz : Int) != 0) = true := by simp; omega
              have hlI : ((frl T (64 * k + q)).length : Int) < (N : Int) := by omega
              obtain ⟨z2, hz2e⟩ : ∃ z2, z2 = zw T k (t + 1) := ⟨_, rfl⟩
              have hand : bits .and .u64 (zz : Int) ((zz : Int) - 1) = (z2 : Int) := by
                rw [show (zz : Int) - 1 = ((zz - 1 : Nat) : Int) by omega, bits_and_u64_nat _ _ hzlt (by omega), hz2e, ← h6, HZ.out]
              have hz2lt : z2 < zz := by
                have hle : z2 ≤ zz - 1 := by rw [hz2e, ← h6, ← HZ.out]; exact Nat.and_le_right
                omega
              have HNX : Hid (frl T (64 * k + (t + 1)) = frl T (64 * k + q) ++ [64 * k + t]) := by
                show _ = _
                have := frl_one (T := T) (m := 64 * k + q) (t := t - q) (fun j a b => by have := h5 (j - 64 * k) (by omega) (by omega); rw [show 64 * k + (j - 64 * k) = j by omega] at this; exact this) (by rw [show 64 * k + q + (t - q) = 64 * k + t by omega]; exact h4)
                rw [show 64 * k + q + (t - q) = 64 * k + t by omega] at this
                exact this
              have HZ2 := hide hz2e
              obtain ⟨p, hp⟩ : ∃ p, p = 64 * k + t := ⟨_, rfl⟩
              have hpp : IntKind.i64.wrap ((k : Int) * 64 + (t : Int)) = (p : Int) := by rw [IntKind.wrap_i64]; omega
              have hpb : p < 2000000 := by omega
              rw [← hp] at HNX
              have HBW := hide hbw
              clear hct h1 h4 h5 h6 hz' hbw hz2e hz
              generalize hL : (frl T (64 * k + q)).length = L2 at *
              have HL := hide hL
              have hL2 : L2 ≤ 1048640 := by omega
              have ht64 : t < 64 := h3
              have HOW := hide hown
              clear hL hle2 h2 h3 hp hown
              go_wp2_with fail
              refine HT.out.mono ?_
              rintro e w1 ⟨rfl, rfl⟩
              clear HT
              go_wp2_with (first
                | (at_builtin; refine wpList_append_lies _ rfl _ _ 28 rfl w.heap.size 3 i0 (.int .i64 0) 1 8 Tryd.underlying28 hi hz0 hz1 hz2 rfl (by decide) _ _ _ rfl (HOW.out.alloc _) ⟨wr.heap.size, 0, none⟩ 1 1 [.int .i64 (p : Int)] rfl rfl ?c1 ?c2 ?c3 ?c4 ?c5 ?c6 (wr.heap.size + 1) ?c7 ?_))
              case c1 =>
                intro j u hj
                match j, hj with
                | 0, hj => simp at hj; subst hj; simp [Addr.add]
              case c2 => intro u hu; simp at hu; subst hu; rfl
              case c3 => decide
              case c4 => unfold maxLen; omega
              case c5 => omega
              case c6 => have := HBW.out.size; simp; omega
              case c7 => simp
              intro g' cap w1 hown' hgrow hat hlg
              have HB1 : Hid (Below w.heap.size w w1) := (HBW.out.alloc (by have := HBW.out.size; omega) _).grown hgrow (by have := HBW.out.size; simp; omega) (fun j hj => (HOW.out.lt j hj).1)
              have HO2 : Hid (w1.ownsRow w.heap.size 3 1 (.slice (some ⟨g', 0, none⟩) (L2 + 1) cap) (L2 + 1) (nats (frl T (64 * k + (t + 1))))) := by
                show World.ownsRow _ _ _ _ _ _ _
                rw [HNX.out, nats_append]; exact hown'
              have HLN : Hid ((frl T (64 * k + (t + 1))).length = L2 + 1) := by
                show _ = _
                rw [HNX.out, List.length_append, HL.out]; rfl
              clear hown' hgrow hat hlg HOW HBW hpp
              go_wp2
              go_roundw
              case rel => exact ⟨t + 1, z2, by omega, HZ2, rfl, by show _ ≤ _; rw [HLN.out]; omega, by rw [HLN.out]; exact HO2.out, HB1.out⟩
              case measure => simp [intOf]; omega
            · have hlI : ¬ ((frl T (64 * k + q)).length : Int) < (N : Int) := by omega
              have hzI : ((zz : Int) != 0) = true := by simp; omega
              have hle3 := HLE.out
              have heq : (frl T (64 * k + q)).length = N := by omega
              have HEQ := hide heq
              have HOW := hide hown
              have HBW := hide hbw
              clear hown hbw heq hle3 hle2
              generalize hL : (frl T (64 * k + q)).length = L2 at *
              have HL := hide hL
              clear hL
              go_wp2
              go_roundw
              case rel =>
                refine ⟨k + 1, 64 * k + q, by omega, by omega, by go_num, .inr ?_, ?_, ?_, HBW.out⟩
                · rw [HL.out]; exact HEQ.out
                · rw [HL.out]; exact HLE.out
                · rw [HL.out]; exact HOW.out
              case measure => simp [intOf]; omega
      · have heq : (frl T m).length = N := by omega
        have hlI : ¬ ((frl T m).length : Int) < (N : Int) := by omega
        have HRES : Hid (lowL T P N = frl T m) := by
          show (frl T P).take N = _
          rw [← HF.out]
          obtain ⟨r, hr⟩ := frl_pre T (show m ≤ 64 * n by omega)
          rw [hr, ← heq, List.take_left]
        have HOW := hide hown
        have HBW := hide hbw
        clear hown hbw heq hor
        generalize hL : (frl T m).length = L at *
        have HL := hide hL
        clear hL
        go_wp2
        go_ret
        exact ⟨_, rfl, by rw [HRES.out, HL.out]; exact HOW.out, HBW.out⟩
    · have hkn : k = n := by omega
      have hkI : ¬ (k : Int) < (n : Int) := by omega
      have HRES : Hid (lowL T P N = frl T m) := by
        show (frl T P).take N = _
        rw [← HF.out]
        rcases hor with h | h
        · rw [← hkn, ← h, List.take_of_length_le hle]
        · obtain ⟨r, hr⟩ := frl_pre T (show m ≤ 64 * n by omega)
          rw [hr, ← h, List.take_left]
      have HOW := hide hown
      have HBW := hide hbw
      clear hown hbw hor hkn hm
      generalize hL : (frl T m).length = L at *
      have HL := hide hL
      clear hL
      go_wp2
      go_ret
      exact ⟨_, rfl, by rw [HRES.out, HL.out]; exact HOW.out, HBW.out⟩

end Go.Proofs.YtdghlblgmihbpaaDoor
