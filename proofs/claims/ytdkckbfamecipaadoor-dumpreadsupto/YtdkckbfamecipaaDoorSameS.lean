import Derived.Test.YtdkckbfamecipaaDoorWBase
namespace Go.Proofs.YtdkckbfamecipaaDoor
open Go.RowKit

set_option maxHeartbeats 400000 in
theorem samesl (a1 a2 : Option Addr) (n1 n2 c1 c2 : Nat) (w : World) (hne : n1 ≠ n2) :
    Calls Tryd.prog 17 #[.slice a1 n1 c1, .slice a2 n2 c2] w fun e w' => e = .returned (.bool false) ∧ Below w.heap.size w w' := by
  have hd : ((n1 : Int) != (n2 : Int)) = true := by rw [bne_iff_ne]; omega
  clear hne
  go_enter Tryd.func17, Tryd.ntmps17
  go_wp2
  go_ret
  exact ⟨rfl, Below.refl _ _⟩

set_option maxHeartbeats 1000000 in
theorem sames_two (a1 a2 : Option Addr) (c1 c2 n : Nat) (l1 l2 : List ByteArray) (w : World) (hm : n ≤ 140737488355328) (e1 : l1.length = n) (e2 : l2.length = n)
    (h1 : ∀ j (h : j < l1.length), ∃ g o, a1 = some ⟨g, o, none⟩ ∧ w.cell? ⟨g, o + j, none⟩ = some (.string l1[j])) (h2 : ∀ j (h : j < l2.length), ∃ g o, a2 = some ⟨g, o, none⟩ ∧ w.cell? ⟨g, o + j, none⟩ = some (.string l2[j])) :
    Calls Tryd.prog 17 #[.slice a1 n c1, .slice a2 n c2] w fun e w' => ((l1 = l2 ∧ e = .returned (.bool true)) ∨ (¬ l1 = l2 ∧ e = .returned (.bool false))) ∧ Below w.heap.size w w' := by
  have HE : Hid (l1.length = n ∧ l2.length = n) := ⟨e1, e2⟩
  have H1 := hide h1
  have H2 := hide h2
  have hd0 : ((n : Int) != (n : Int)) = false := by simp
  obtain ⟨Q, hQ⟩ : ∃ Q : Ending → World → Prop, Q = fun e w' => ((l1 = l2 ∧ e = .returned (.bool true)) ∨ (¬ l1 = l2 ∧ e = .returned (.bool false))) ∧ Below w.heap.size w w' := ⟨_, rfl⟩
  rw [← hQ]
  have HQ := hide hQ
  clear e1 e2 h1 h2 hQ
  go_enter Tryd.func17, Tryd.ntmps17
  go_wp2
  go_loopw [5] (fun i wr => ∃ k nq : Nat, k ≤ n ∧ i = .int .i64 k ∧ wr = w.drewN nq ∧ l1.take k = l2.take k) (fun i _ => n - (intOf i).toNat)
  case atStart => exact ⟨0, 0, Nat.zero_le _, rfl, rfl, rfl⟩
  case round =>
    obtain ⟨k, nq, hk, rfl, rfl, hpre⟩ := hrel
    have HPRE : Hid (l1.take k = l2.take k) := hpre
    clear hpre
    by_cases hlt : k < n
    · have hk1 : k < l1.length := by have := HE.out.1; omega
      have hk2 : k < l2.length := by have := HE.out.2; omega
      obtain ⟨g1, o1, rfl, f1⟩ := H1.out k hk1
      obtain ⟨g2, o2, rfl, f2⟩ := H2.out k hk2
      have j0 : (0 : Int) ≤ (k : Int) := Int.natCast_nonneg k
      have j1 : (k : Int) < (n : Int) := by omega
      obtain ⟨x1, hx1⟩ : ∃ x, x = l1[k] := ⟨_, rfl⟩
      obtain ⟨x2, hx2⟩ : ∃ x, x = l2[k] := ⟨_, rfl⟩
      rw [← hx1] at f1
      rw [← hx2] at f2
      have HX : Hid (x1 = l1[k] ∧ x2 = l2[k]) := ⟨hx1, hx2⟩
      clear hx1 hx2 H1 H2
      by_cases hx : x1 = x2
      · subst hx
        go_wp2
        go_quiet (fail)
        go_wp2
        go_roundw
        case rel =>
          refine ⟨k + 1, _, by omega, by go_num, rfl, ?_⟩
          have he : l1[k] = l2[k] := HX.out.1.symm.trans HX.out.2
          rw [List.take_succ_eq_append_getElem hk1, List.take_succ_eq_append_getElem hk2, HPRE.out, he]
        case measure => simp [intOf]; omega
      · have HNE : Hid (¬ l1 = l2) := fun he => by
          subst he
          exact hx (HX.out.1.trans HX.out.2.symm)
        have hd : (x1.toList == x2.toList) = false := by
          rw [beq_eq_false_iff_ne, ByteArray.toList_eq, ByteArray.toList_eq]
          exact fun h => hx (ba_ext h)
        go_wp2
        go_quiet (fail)
        go_wp2
        rw [HQ.out]
        exact ⟨.inr ⟨HNE.out, rfl⟩, below_drewN' (below_drewN' (Below.refl _ _) _) _⟩
    · have HEQ : Hid (l1 = l2) := by
        have h := HPRE.out
        rw [List.take_of_length_le (by have := HE.out.1; omega), List.take_of_length_le (by have := HE.out.2; omega)] at h
        exact h
      clear H1 H2
      go_wp2
      rw [HQ.out]
      exact ⟨.inl ⟨HEQ.out, rfl⟩, below_drewN' (Below.refl _ _) _⟩

theorem sames_any (v1 v2 : Value) (l1 l2 : List ByteArray) (w : World) (hm : l1.length ≤ 140737488355328) (r1 : StrR w v1 l1) (r2 : StrR w v2 l2) :
    Calls Tryd.prog 17 #[v1, v2] w fun e w' => ((l1 = l2 ∧ e = .returned (.bool true)) ∨ (¬ l1 = l2 ∧ e = .returned (.bool false))) ∧ Below w.heap.size w w' := by
  obtain ⟨a1, c1, rfl, _, f1⟩ := r1
  obtain ⟨a2, c2, rfl, _, f2⟩ := r2
  by_cases he : l1.length = l2.length
  · rw [← he]
    exact sames_two a1 a2 c1 c2 l1.length l1 l2 w hm rfl he.symm f1 f2
  · refine (samesl a1 a2 _ _ c1 c2 w he).mono ?_
    rintro e w' ⟨rfl, hb⟩
    exact ⟨.inr ⟨fun h => he (by rw [h]), rfl⟩, hb⟩

theorem sames_same (v1 v2 : Value) (l : List ByteArray) (w : World) (hm : l.length ≤ 140737488355328) (r1 : StrR w v1 l) (r2 : StrR w v2 l) :
    Calls Tryd.prog 17 #[v1, v2] w fun e w' => e = .returned (.bool true) ∧ Below w.heap.size w w' := by
  refine (sames_any v1 v2 l l w hm r1 r2).mono ?_
  rintro e w' ⟨h | h, hb⟩
  · exact ⟨h.2, hb⟩
  · exact absurd rfl h.1
theorem sames_not (v1 v2 : Value) (l1 l2 : List ByteArray) (w : World) (hm : l1.length ≤ 140737488355328) (r1 : StrR w v1 l1) (r2 : StrR w v2 l2) (hne : ¬ l1 = l2) :
    Calls Tryd.prog 17 #[v1, v2] w fun e w' => e = .returned (.bool false) ∧ Below w.heap.size w w' := by
  refine (sames_any v1 v2 l1 l2 w hm r1 r2).mono ?_
  rintro e w' ⟨h | h, hb⟩
  · exact absurd h.1 hne
  · exact ⟨h.2, hb⟩

end Go.Proofs.YtdkckbfamecipaaDoor
