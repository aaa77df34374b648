import Derived.Test.YtagldlchamlpdabDoorBChk1
import Derived.Test.YtagldlchamlpdabDoorLErr
namespace Go.Proofs.YtagldlchamlpdabDoor
open Go.RowKit

theorem wsz_add7 (a s : Nat) : IntKind.i64.wrap (IntKind.i64.wrap (wsz a + 7) + (s : Int)) = wsz (a + (7 + s)) := by
  unfold wsz; rw [IntKind.wrap_i64, IntKind.wrap_i64, IntKind.wrap_i64, IntKind.wrap_i64]; omega

set_option maxHeartbeats 1000000 in
theorem rbsize_any (f : Int) (v : Value) (l : List Lk) (w : World) (hm : l.length ≤ 140737488355328) (hr : LkR w v l) :
    Calls Tryd.prog 87 #[.agg #[.int .i64 f, v]] w fun e w' => e = .returned (.int .i64 (wsz (szB l))) ∧ Below w.heap.size w w' := by
  obtain ⟨a, cap, hv⟩ := hr.form
  subst hv
  obtain ⟨n, hn⟩ : ∃ n, n = l.length := ⟨_, rfl⟩
  rw [← hn] at hr hm ⊢
  have q0 := below_new w (.cells #[.int .i64 f, .slice a n cap] 30)
  have x0 := RowAt.new w #[.int .i64 f, .slice a n cap] 30
  generalize hW0 : w.alloc (.cells #[.int .i64 f, .slice a n cap] 30) = W0 at *
  have p1 := x0.c1
  have HR := hide (hr.below q0)
  have HN := hide hn
  have HQ := hide q0
  have H0 : Hid (wsz (szB (l.take 0)) = 6) := by show _ = _; simp [szB_nil, wsz_small]
  clear hn hr q0 x0
  go_enter Tryd.func87, Tryd.ntmps87
  go_wp2
  go_loop [3, 4] (fun r i => ∃ k : Nat, k ≤ n ∧ i = .int .i64 k ∧ r = .int .i64 (wsz (szB (l.take k)))) (fun _ i => n - (intOf i).toNat)
  case atStart => exact ⟨0, Nat.zero_le _, rfl, by rw [H0.out]⟩
  case round =>
    obtain ⟨k, hk, rfl, rfl⟩ := hrel
    by_cases hlt : k < n
    · have hkl : k < l.length := by have := HN.out; omega
      obtain ⟨g, o, rfl, c1, c2⟩ := HR.out.spot k hkl
      have hws : IntKind.i64.wrap (IntKind.i64.wrap (wsz (szB (l.take k)) + 7) + (l[k].1.size : Int)) = wsz (szB (l.take (k + 1))) := by rw [wsz_add7, szB_take_succ l k hkl]; rfl
      generalize l[k].1 = s1 at *
      obtain ⟨x, hx⟩ : ∃ x, x = wsz (szB (l.take k)) := ⟨_, rfl⟩
      obtain ⟨y, hy⟩ : ∃ y, y = wsz (szB (l.take (k + 1))) := ⟨_, rfl⟩
      obtain ⟨z, hz⟩ : ∃ z, z = IntKind.i64.wrap (x + 7) := ⟨_, rfl⟩
      rw [← hx, ← hz, ← hy] at hws
      rw [← hx]
      have hz' : IntKind.i64.wrap (x + 7) = z := hz.symm
      have HY := hide hy
      have hltI : (k : Int) < (n : Int) := by omega
      have j0 : (0 : Int) ≤ (k : Int) := by omega
      clear hx hy c2 hz
      go_wp2
      go_round
      case rel => exact ⟨k + 1, by omega, by go_num, by rw [← HY.out]⟩
      case measure => simp [intOf]; omega
    · have hall : l.take k = l := by rw [List.take_of_length_le]; have := HN.out; omega
      rw [hall]
      have hltI : ¬ (k : Int) < (n : Int) := by omega
      obtain ⟨x, hx⟩ : ∃ x, x = wsz (szB l) := ⟨_, rfl⟩
      rw [← hx]
      have HX := hide hx
      clear hall hx
      go_wp2
      go_ret
      exact ⟨by rw [← HX.out]; rfl, HQ.out⟩

set_option maxHeartbeats 400000 in
theorem rchild_any (n : Int) (w : World) : Calls Tryd.prog 85 #[.int .i64 n] w fun e w' => e = .returned (.bool (childB n)) ∧ w = w' := by
  by_cases h1 : 2 ≤ n
  · by_cases h2 : n < 1048576
    · have hm : childB n = true := decide_eq_true ⟨h1, h2⟩
      rw [hm]; clear hm
      go_enter Tryd.func85, Tryd.ntmps85
      go_wp2
      go_ret
      exact ⟨rfl, rfl⟩
    · have hm : childB n = false := decide_eq_false (fun h => h2 h.2)
      rw [hm]; clear hm
      go_enter Tryd.func85, Tryd.ntmps85
      go_wp2
      go_ret
      exact ⟨rfl, rfl⟩
  · have hm : childB n = false := decide_eq_false (fun h => h1 h.1)
    rw [hm]; clear hm
    go_enter Tryd.func85, Tryd.ntmps85
    go_wp2
    go_ret
    exact ⟨rfl, rfl⟩

/-- Among the first k links' children, and First, no two are the same. -/
def ApartK (f : Int) (l : List Lk) (k : Nat) : Prop := ∀ i (hi : i < l.length), i < k → l[i].2 ≠ f ∧ ∀ j (hj : j < i), l[i].2 ≠ (l[j]'(by omega)).2
theorem apartK_all {f : Int} {l : List Lk} {k : Nat} (hk : l.length ≤ k) (h : ApartK f l k) : (kids f l).Nodup := by
  rw [List.nodup_iff_pairwise_ne, List.pairwise_iff_getElem]
  intro i j hi hj hij
  rw [kids_len] at hi hj
  obtain ⟨j', rfl⟩ : ∃ j', j = j' + 1 := ⟨j - 1, by omega⟩
  have h' := h j' (by omega) (by omega)
  cases i with
  | zero => simp only [kids, List.getElem_cons_zero, List.getElem_cons_succ, List.getElem_map]; exact fun e => h'.1 e.symm
  | succ i => simp only [kids, List.getElem_cons_succ, List.getElem_map]; exact fun e => h'.2 i (by omega) e.symm
theorem twin_first {f : Int} {l : List Lk} {k : Nat} (hk : k < l.length) (h : l[k].2 = f) : ¬ (kids f l).Nodup := fun hn => by
  rw [List.nodup_iff_pairwise_ne, List.pairwise_iff_getElem] at hn
  have := hn 0 (k + 1) (by rw [kids_len]; omega) (by rw [kids_len]; omega) (by omega)
  simp only [kids, List.getElem_cons_zero, List.getElem_cons_succ, List.getElem_map] at this
  exact this h.symm
theorem twin_two {f : Int} {l : List Lk} {k j : Nat} (hk : k < l.length) (hj : j < k) (h : l[k].2 = (l[j]'(by omega)).2) : ¬ (kids f l).Nodup := fun hn => by
  rw [List.nodup_iff_pairwise_ne, List.pairwise_iff_getElem] at hn
  have := hn (j + 1) (k + 1) (by rw [kids_len]; omega) (by rw [kids_len]; omega) (by omega)
  simp only [kids, List.getElem_cons_succ, List.getElem_map] at this
  exact this h.symm

set_option maxRecDepth 20000 in
set_option maxHeartbeats 2000000 in
theorem ralike_any (f : Int) (v : Value) (l : List Lk) (w : World) (hm : l.length ≤ 140737488355328) (hr : LkR w v l) :
    Calls Tryd.prog 86 #[.agg #[.int .i64 f, v]] w fun e w' => e = .returned (.bool (decide (¬ (kids f l).Nodup))) ∧ Below w.heap.size w w' := by
  obtain ⟨a, cap, hv⟩ := hr.form
  subst hv
  obtain ⟨n, hn⟩ : ∃ n, n = l.length := ⟨_, rfl⟩
  rw [← hn] at hr hm ⊢
  have q0 := below_new w (.cells #[.int .i64 f, .slice a n cap] 30)
  have x0 := RowAt.new w #[.int .i64 f, .slice a n cap] 30
  generalize hW0 : w.alloc (.cells #[.int .i64 f, .slice a n cap] 30) = W0 at *
  have HX := hide x0
  have HR := hide (hr.below q0)
  have HN := hide hn
  have HQ := hide q0
  obtain ⟨Q, hQ⟩ : ∃ Q : Ending → World → Prop, Q = fun e w' => e = .returned (.bool (decide (¬ (kids f l).Nodup))) ∧ Below w.heap.size w w' := ⟨_, rfl⟩
  rw [← hQ]
  have HQQ := hide hQ
  clear hn hr q0 x0 hQ
  go_enter Tryd.func86, Tryd.ntmps86
  go_wp2
  go_loopw [3] (fun i wr => ∃ k : Nat, k ≤ n ∧ i = .int .i64 k ∧ ApartK f l k ∧ Below W0.heap.size W0 wr) (fun i _ => n - (intOf i).toNat)
  case atStart => exact ⟨0, Nat.zero_le _, rfl, fun i _ h => absurd h (Nat.not_lt_zero _), Below.refl _ _⟩
  case round =>
    obtain ⟨k, hk, rfl, hap, hbw⟩ := hrel
    have p0 := (HX.out.below hbw).c0
    have p1 := (HX.out.below hbw).c1
    have HAP := hide hap
    clear hap
    by_cases hlt : k < n
    · have hkl : k < l.length := by have := HN.out; omega
      obtain ⟨g, o, ha, c1, c2⟩ := (HR.out.below hbw).spot k hkl
      have hltI : (k : Int) < (n : Int) := by omega
      have j0 : (0 : Int) ≤ (k : Int) := by omega
      have HRW := hide (HR.out.below hbw)
      have HB := hide hbw
      subst ha
      have HT1 : Hid (l[k].2 = f → ¬ (kids f l).Nodup) := fun h => twin_first hkl h
      have HT2 : Hid (∀ j (hj : j < k), l[k].2 = (l[j]'(by omega)).2 → ¬ (kids f l).Nodup) := fun j hj h => twin_two hkl hj h
      have HNX : Hid (l[k].2 ≠ f → (∀ j (hj : j < k), l[k].2 ≠ (l[j]'(by omega)).2) → ApartK f l (k + 1)) := fun h1 h2 i hi hik => by
        by_cases he : i = k
        · subst he; exact ⟨h1, h2⟩
        · exact HAP.out i hi (by omega)
      obtain ⟨s2, hs2⟩ : ∃ s, s = l[k].2 := ⟨_, rfl⟩
      rw [← hs2] at c2 HT1 HT2 HNX
      have HS2 := hide hs2
      clear hbw c1 hs2
      by_cases hf : s2 = f
      · subst hf
        have HT := hide (HT1.out rfl)
        have hbe : (s2 == s2) = true := by simp
        clear HT1 HT2 HNX
        go_wp2
        go_quiet (fail)
        go_wp2
        rw [HQQ.out]
        exact ⟨by rw [decide_eq_true HT.out]; rfl, below_drewN' (Below.next HQ.out HB.out) _⟩
      · have hbe : (s2 == f) = false := by rw [beq_eq_false_iff_ne]; exact hf
        have HF := hide hf
        clear hf HT1
        go_wp2
        go_quiet (fail)
        go_wp2
        clear p0 p1 c2
        go_loopw [4] (fun i wr2 => ∃ j : Nat, j ≤ k ∧ i = .int .i64 j ∧ (∀ j' (h : j' < k), j' < j → s2 ≠ (l[j']'(by omega)).2) ∧ Below W0.heap.size W0 wr2) (fun i _ => k - (intOf i).toNat)
        case atStart => exact ⟨0, Nat.zero_le _, rfl, fun j _ h => absurd h (Nat.not_lt_zero _), below_drewN' HB.out _⟩
        case round =>
          obtain ⟨j, hj, rfl, hne, hbw⟩ := hrel
          have HNE := hide hne
          clear hne
          by_cases hjk : j < k
          · have hjI : (j : Int) < (k : Int) := by omega
            have hjn : (j : Int) < (n : Int) := by omega
            have j1 : (0 : Int) ≤ (j : Int) := by omega
            have p1 := (HX.out.below hbw).c1
            obtain ⟨g2, o2, ha2, _, d2⟩ := (HR.out.below hbw).spot k hkl
            cases ha2
            obtain ⟨g3, o3, ha3, _, d3⟩ := (HR.out.below hbw).spot j (by omega)
            cases ha3
            rw [← HS2.out] at d2
            have HT3 : Hid (s2 = (l[j]'(by omega)).2 → ¬ (kids f l).Nodup) := fun h => HT2.out j hjk h
            have HNX3 : Hid (s2 ≠ (l[j]'(by omega)).2 → ∀ j' (h : j' < k), j' < j + 1 → s2 ≠ (l[j']'(by omega)).2) := fun h j' hj' hlt' => by
              by_cases he : j' = j
              · subst he; exact h
              · exact HNE.out j' hj' (by omega)
            have hjl : j < l.length := by omega
            generalize (l[j]'hjl).2 = s3 at *
            have HBW := hide hbw
            clear hbw
            by_cases h3 : s2 = s3
            · subst h3
              have HT := hide (HT3.out rfl)
              have hbe2 : (s2 == s2) = true := by simp
              clear HT3 HNX3 HT2 HNX
              go_wp2
              go_quiet (fail)
              go_wp2
              rw [HQQ.out]
              exact ⟨by rw [decide_eq_true HT.out]; rfl, below_drewN' (Below.next HQ.out HBW.out) _⟩
            · have hbe2 : (s2 == s3) = false := by rw [beq_eq_false_iff_ne]; exact h3
              have HN3 := hide (HNX3.out h3)
              clear HT3 HNX3 h3
              go_wp2
              go_quiet (fail)
              go_wp2
              go_roundw
              case rel => exact ⟨j + 1, by omega, by go_num, HN3.out, below_drewN' HBW.out _⟩
              case measure => simp [intOf]; omega
          · have hjI : ¬ (j : Int) < (k : Int) := by omega
            have HN4 := hide (HNX.out HF.out (fun j' h => HNE.out j' h (by omega)))
            have HBW := hide hbw
            clear hbw HNX HT2
            go_wp2
            go_roundw
            case rel => exact ⟨k + 1, by omega, by go_num, HN4.out, HBW.out⟩
            case measure => simp [intOf]; omega
    · have hltI : ¬ (k : Int) < (n : Int) := by omega
      have HALL : Hid ((kids f l).Nodup) := apartK_all (by have := HN.out; omega) HAP.out
      have HB := hide (Below.next HQ.out hbw)
      clear hbw HAP
      go_wp2
      rw [HQQ.out]
      exact ⟨by rw [decide_eq_false (fun h => h HALL.out)], HB.out⟩

end Go.Proofs.YtagldlchamlpdabDoor
