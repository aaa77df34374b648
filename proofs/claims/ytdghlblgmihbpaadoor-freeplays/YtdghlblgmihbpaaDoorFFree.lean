import Derived.Test.YtdghlblgmihbpaaDoorFCore
namespace Go.Proofs.YtdghlblgmihbpaaDoor
open Go.RowKit

theorem fr_up {P : Nat} {T : Nat → Bool} (h : ∀ j, P ≤ j → T j = true) (n : Nat) (hn : P ≤ n) : frl T n = frl T P := by
  obtain ⟨d, rfl⟩ : ∃ d, n = P + d := ⟨n - P, by omega⟩
  exact frl_true d (fun j h1 _ => h j h1)

set_option maxRecDepth 100000 in
set_option maxHeartbeats 1000000 in
theorem free_any (b g P : Nat) (T : Nat → Bool) (w : World) (h : MapR w b g P T) (hk : MapOk P T) :
    Calls Tryd.prog 18 #[.pointer (some ⟨b, 0, none⟩)] w fun e w' => e = .returned (.int .i64 ((frl T P).length : Nat)) ∧ w = w' := by
  have hn := nW_le h.hi
  have c1 := h.c1
  have HF : Hid (64 * nW P - tr T (64 * nW P) = (frl T P).length) := by
    show _ = _
    rw [← fr_up hk.up _ (nW_lo P), frl_len]; rfl
  have H := hide h
  clear h hk
  generalize (frl T P).length = res at *
  obtain ⟨n, hN⟩ : ∃ n, n = nW P := ⟨_, rfl⟩
  rw [← hN] at hn c1 HF
  have HN := hide hN
  clear hN
  go_enter Tryd.func18, Tryd.ntmps18
  go_wp2_with fail
  go_loopw [3, 17] (fun f i wr => ∃ k : Nat, k ≤ n ∧ i = .int .i64 k ∧ f = .int .i64 (64 * n - tr T (64 * k) : Nat) ∧ w = wr) (fun _ i _ => n - (intOf i).toNat)
  case atStart => exact ⟨0, Nat.zero_le _, rfl, by simp [tr]; omega, rfl⟩
  case round =>
    obtain ⟨k, hk, rfl, rfl, rfl⟩ := hrel
    by_cases hlt : k < n
    · have cw := H.out.cw k (by rw [← HN.out]; exact hlt)
      have HO := hide (ones_any (word T k) (word_lt T k) w)
      have HT := hide (tr_word T k)
      have HL := hide (tr_le T (64 * (k + 1)))
      have HL2 := hide (tr_le T (64 * k))
      go_wp2_with fail
      refine HO.out.mono ?_
      rintro e w1 ⟨rfl, rfl⟩
      obtain ⟨z, hz⟩ : ∃ z, z = tr (word T k).testBit 64 := ⟨_, rfl⟩
      obtain ⟨z0, hz0⟩ : ∃ z, z = tr T (64 * k) := ⟨_, rfl⟩
      have HT' : Hid (tr T (64 * (k + 1)) = z0 + z) := by show _ = _; rw [hz, hz0]; exact HT.out
      have hl1 : z0 + z ≤ 64 * (k + 1) := by have := HL.out; rw [HT'.out] at this; exact this
      rw [← hz, ← hz0]
      clear HO HT HL HL2 hz hz0
      go_wp2
      go_roundw
      case rel => exact ⟨k + 1, by omega, by go_num, by rw [HT'.out]; go_num, trivial⟩
      case measure => simp [intOf]; omega
    · have he : k = n := by omega
      subst he
      have HF2 := HF
      go_wp2
      go_ret
      exact ⟨by rw [HF2.out]; rfl, rfl⟩

end Go.Proofs.YtdghlblgmihbpaaDoor
